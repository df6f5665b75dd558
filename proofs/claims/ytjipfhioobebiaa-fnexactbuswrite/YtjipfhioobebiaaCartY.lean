/-
  Contracts of ours for both CartWrite, told field by field.
-/
import Derived.Test.YtjipfhioobebiaaCartX
namespace Go.Proofs.Ytjipfhioobebiaa.CartY
open Go.ChangeShapes Go.WideShapes Go.ChangeAt Go.RowKit Go.Deep
set_option linter.unusedVariables false
open Signed (inB ret_int ret_bool isByte_any l1In_any)
open Carts CartK CartL CartM CartN CartP CartR CartW CartV CartX

def wBank (kind bank addr v : Int) : Int := if 128 ≤ addr ∧ addr < 256 then (if kind = 1 then bank1 v else if kind = 2 then v else bank) else bank
def wRam (kind : Int) (ram : ByteArray) (rb : Int) (on : Bool) (mode addr v : Int) : ByteArray := if 40960 ≤ addr ∧ addr < 41024 then (if on = true then putB ram (ramQ kind rb mode * 64 + addr - 40960) v else ram) else ram
def wRb (kind rb addr v : Int) : Int := if 256 ≤ addr ∧ addr < 384 ∧ ¬ kind = 0 then v % 4 else rb
def wOn (kind : Int) (on : Bool) (addr v : Int) : Bool := if addr < 128 ∧ ¬ kind = 0 then v % 16 == 10 else on
def wMode (kind mode addr v : Int) : Int := if 384 ≤ addr ∧ addr < 512 ∧ kind = 1 then v % 2 else mode
def wrote (rom : ByteArray) (kind bank : Int) (ram : ByteArray) (rb : Int) (on : Bool) (mode : Int) (addr v : Int) : Value := .agg #[.string rom, .int .i64 kind, .int .i64 (wBank kind bank addr v), .string (wRam kind ram rb on mode addr v), .int .i64 (wRb kind rb addr v), .bool (wOn kind on addr v), .int .i64 (wMode kind mode addr v)]
def back (rom : ByteArray) (kind bank : Int) (ram : ByteArray) (rb : Int) (on : Bool) (mode : Int) (addr v : Int) : Value := if okB rom kind bank ram rb on mode = true ∧ inB addr 0 65535 = true ∧ inB v 0 255 = true then .tuple #[wrote rom kind bank ram rb on mode addr v, .bool true] else .tuple #[noCart, .bool false]
theorem fin {rom : ByteArray} {kind b b' : Int} {m m' : ByteArray} {r r' : Int} {o o' : Bool} {d d' : Int} {e : Ending} {w w' : World} (hb : b = b') (hm : m = m') (hr : r = r') (ho : o = o') (hd : d = d')
    (k : e = .returned (.tuple #[.agg #[.string rom, .int .i64 kind, .int .i64 b, .string m, .int .i64 r, .bool o, .int .i64 d], .bool true]) ∧ Below w.heap.size w w') :
    e = .returned (.tuple #[.agg #[.string rom, .int .i64 kind, .int .i64 b', .string m', .int .i64 r', .bool o', .int .i64 d'], .bool true]) ∧ Below w.heap.size w w' := by
  subst hb hm hr ho hd
  exact k
set_option maxHeartbeats 1000000 in
theorem implWrite_right (rom : ByteArray) (kind bank : Int) (ram : ByteArray) (rb : Int) (on : Bool) (mode : Int) (addr v : Int) (w : World) (hs : rom.size ≤ maxLen) (hr : ram.size ≤ maxLen) (h : okB rom kind bank ram rb on mode = true) (hw : inB addr 0 65535 = true) (hb : inB v 0 255 = true) :
    Calls Try.prog 25 #[.agg #[.string rom, .int .i64 kind, .int .i64 bank, .string ram, .int .i64 rb, .bool on, .int .i64 mode], .int .i64 addr, .int .i64 v] w fun e w' => e = .returned (.tuple #[wrote rom kind bank ram rb on mode addr v, .bool true]) ∧ Below w.heap.size w w' := by
  obtain ⟨n, n0, n1, hn, hbk, hm, b0, b1, r0, r1, m0, m1, hk⟩ := right rom kind bank ram rb on mode h
  obtain ⟨a0, a1⟩ := of_decide_eq_true hw
  obtain ⟨v0, v1⟩ := of_decide_eq_true hb
  unfold wrote
  by_cases big : 512 ≤ addr
  · by_cases hyes : on = true ∧ 40960 ≤ addr ∧ addr < 41024
    · obtain ⟨rfl, y0, y1⟩ := hyes
      have hk' : kind = 1 ∨ kind = 2 := by
        rcases hk with hk | hk | hk
        · exact absurd hk.2 (by decide)
        · exact .inl hk
        · exact .inr hk.1
      exact (implYes_ram _ _ _ _ _ _ _ _ _ _ _ _ _ _ addr v w hs hr h hw hb (fun w => written_yes rom kind bank ram rb mode addr v _ w v0 v1 hm r0 r1 m0 m1 hk' y0 y1 rfl)).mono (fun e w' k => fin (by unfold wBank; rw [if_neg (by omega)]) (by unfold wRam; rw [if_pos (by omega), if_pos rfl]) (by unfold wRb; rw [if_neg (by omega)]) (by unfold wOn; rw [if_neg (by omega)]) (by unfold wMode; rw [if_neg (by omega)]) k)
    · have hno : on = false ∨ addr < 40960 ∨ 41024 ≤ addr := by cases on <;> simp at hyes ⊢; omega
      exact (implYes_n3 _ _ _ _ _ _ _ _ _ _ _ _ _ _ addr v w hs hr h hw hb (fun w => written_no rom kind bank ram rb on mode addr v w v0 v1 big hno)).mono (fun e w' k => fin (by unfold wBank; rw [if_neg (by omega)]) (by unfold wRam; rcases hno with h | h | h; (split; rw [if_neg (by simp [h])]; rfl); rw [if_neg (by omega)]; rw [if_neg (by omega)]) (by unfold wRb; rw [if_neg (by omega)]) (by unfold wOn; rw [if_neg (by omega)]) (by unfold wMode; rw [if_neg (by omega)]) k)
  · rcases hk with ⟨rfl, hon⟩ | rfl | ⟨rfl, hmode⟩
    · exact (implYes_n4 _ _ _ _ _ _ _ _ _ _ _ _ _ _ addr v w hs hr h hw hb (fun w => written_0 rom bank ram rb on mode addr v w v0 v1 a0 (by omega))).mono (fun e w' k => fin (by unfold wBank; split; rw [if_neg (by omega), if_neg (by omega)]; rfl) (by unfold wRam; rw [if_neg (by omega)]) (by unfold wRb; rw [if_neg (by omega)]) (by unfold wOn; rw [if_neg (by omega)]) (by unfold wMode; rw [if_neg (by omega)]) k)
    · have q : addr < 128 ∨ (128 ≤ addr ∧ addr < 256) ∨ (256 ≤ addr ∧ addr < 384) ∨ (384 ≤ addr ∧ addr < 512) := by omega
      rcases q with q | q | q | q
      · exact (implYes_n8 _ _ _ _ _ _ _ _ _ _ _ _ _ _ addr v w hs hr h hw hb (fun w => written_10 rom bank ram rb on mode addr v w v0 v1 a0 q)).mono (fun e w' k => fin (by unfold wBank; rw [if_neg (by omega)]) (by unfold wRam; rw [if_neg (by omega)]) (by unfold wRb; rw [if_neg (by omega)]) (by unfold wOn; rw [if_pos (by omega)]) (by unfold wMode; rw [if_neg (by omega)]) k)
      · exact (implYes_n6 _ _ _ _ _ _ _ _ _ _ _ _ _ _ addr v w hs hr h hw hb (fun w => written_11 rom bank ram rb on mode addr v w v0 v1 q.1 q.2)).mono (fun e w' k => fin (by unfold wBank; rw [if_pos (by omega), if_pos rfl]) (by unfold wRam; rw [if_neg (by omega)]) (by unfold wRb; rw [if_neg (by omega)]) (by unfold wOn; rw [if_neg (by omega)]) (by unfold wMode; rw [if_neg (by omega)]) k)
      · exact (implYes_n8 _ _ _ _ _ _ _ _ _ _ _ _ _ _ addr v w hs hr h hw hb (fun w => written_12 rom bank ram rb on mode addr v w v0 v1 q.1 q.2)).mono (fun e w' k => fin (by unfold wBank; rw [if_neg (by omega)]) (by unfold wRam; rw [if_neg (by omega)]) (by unfold wRb; rw [if_pos (by omega)]) (by unfold wOn; rw [if_neg (by omega)]) (by unfold wMode; rw [if_neg (by omega)]) k)
      · exact (implYes_n6 _ _ _ _ _ _ _ _ _ _ _ _ _ _ addr v w hs hr h hw hb (fun w => written_13 rom bank ram rb on mode addr v w v0 v1 q.1 q.2)).mono (fun e w' k => fin (by unfold wBank; rw [if_neg (by omega)]) (by unfold wRam; rw [if_neg (by omega)]) (by unfold wRb; rw [if_neg (by omega)]) (by unfold wOn; rw [if_neg (by omega)]) (by unfold wMode; rw [if_pos (by omega)]) k)
    · have q : addr < 128 ∨ (128 ≤ addr ∧ addr < 256) ∨ (256 ≤ addr ∧ addr < 384) ∨ (384 ≤ addr ∧ addr < 512) := by omega
      rcases q with q | q | q | q
      · exact (implYes_n8 _ _ _ _ _ _ _ _ _ _ _ _ _ _ addr v w hs hr h hw hb (fun w => written_20 rom bank ram rb on mode addr v w v0 v1 a0 q)).mono (fun e w' k => fin (by unfold wBank; rw [if_neg (by omega)]) (by unfold wRam; rw [if_neg (by omega)]) (by unfold wRb; rw [if_neg (by omega)]) (by unfold wOn; rw [if_pos (by omega)]) (by unfold wMode; rw [if_neg (by omega)]) k)
      · exact (implYes_n6 _ _ _ _ _ _ _ _ _ _ _ _ _ _ addr v w hs hr h hw hb (fun w => written_21 rom bank ram rb on mode addr v w v0 v1 q.1 q.2)).mono (fun e w' k => fin (by unfold wBank; rw [if_pos (by omega), if_neg (by omega), if_pos rfl]) (by unfold wRam; rw [if_neg (by omega)]) (by unfold wRb; rw [if_neg (by omega)]) (by unfold wOn; rw [if_neg (by omega)]) (by unfold wMode; rw [if_neg (by omega)]) k)
      · exact (implYes_n8 _ _ _ _ _ _ _ _ _ _ _ _ _ _ addr v w hs hr h hw hb (fun w => written_22 rom bank ram rb on mode addr v w v0 v1 q.1 q.2)).mono (fun e w' k => fin (by unfold wBank; rw [if_neg (by omega)]) (by unfold wRam; rw [if_neg (by omega)]) (by unfold wRb; rw [if_pos (by omega)]) (by unfold wOn; rw [if_neg (by omega)]) (by unfold wMode; rw [if_neg (by omega)]) k)
      · exact (implYes_n8 _ _ _ _ _ _ _ _ _ _ _ _ _ _ addr v w hs hr h hw hb (fun w => written_23 rom bank ram rb on mode addr v w v0 v1 q.1 q.2)).mono (fun e w' k => fin (by unfold wBank; rw [if_neg (by omega)]) (by unfold wRam; rw [if_neg (by omega)]) (by unfold wRb; rw [if_neg (by omega)]) (by unfold wOn; rw [if_neg (by omega)]) (by unfold wMode; rw [if_neg (by omega)]) k)
theorem implWrite_any (rom : ByteArray) (kind bank : Int) (ram : ByteArray) (rb : Int) (on : Bool) (mode : Int) (addr v : Int) (w : World) (hs : rom.size ≤ maxLen) (hr : ram.size ≤ maxLen) :
    Calls Try.prog 25 #[.agg #[.string rom, .int .i64 kind, .int .i64 bank, .string ram, .int .i64 rb, .bool on, .int .i64 mode], .int .i64 addr, .int .i64 v] w fun e w' => e = .returned (back rom kind bank ram rb on mode addr v) ∧ Below w.heap.size w w' := by
  unfold back
  cases h : okB rom kind bank ram rb on mode with
  | false =>
    rw [if_neg (by simp)]
    by_cases hk : kind = 0 ∨ kind = 1 ∨ kind = 2
    · exact implNo1 rom kind bank ram rb on mode addr v w hs hr h hk
    · exact implNo2 rom kind bank ram rb on mode addr v w hs hr (by omega) (by omega) (by omega)
  | true =>
    cases hw : inB addr 0 65535 with
    | false =>
      rw [if_neg (by simp)]
      exact implNo3 rom kind bank ram rb on mode addr v w hs hr h hw
    | true =>
      cases hb : inB v 0 255 with
      | false =>
        rw [if_neg (by simp)]
        exact implNo4 rom kind bank ram rb on mode addr v w hs hr h hw hb
      | true =>
        rw [if_pos ⟨rfl, rfl, rfl⟩]
        exact implWrite_right rom kind bank ram rb on mode addr v w hs hr h hw hb
set_option maxHeartbeats 1000000 in
theorem specWrite_right (rom : ByteArray) (kind bank : Int) (ram : ByteArray) (rb : Int) (on : Bool) (mode : Int) (addr v : Int) (w : World) (hs : rom.size ≤ maxLen) (hr : ram.size ≤ maxLen) (h : okB rom kind bank ram rb on mode = true) (hw : inB addr 0 65535 = true) (hb : inB v 0 255 = true) :
    Calls Try.prog 24 #[.agg #[.string rom, .int .i64 kind, .int .i64 bank, .string ram, .int .i64 rb, .bool on, .int .i64 mode], .int .i64 addr, .int .i64 v] w fun e w' => e = .returned (.tuple #[wrote rom kind bank ram rb on mode addr v, .bool true]) ∧ Below w.heap.size w w' := by
  obtain ⟨n, n0, n1, hn, hbk, hm, b0, b1, r0, r1, m0, m1, hk⟩ := right rom kind bank ram rb on mode h
  obtain ⟨a0, a1⟩ := of_decide_eq_true hw
  obtain ⟨v0, v1⟩ := of_decide_eq_true hb
  unfold wrote
  by_cases big : 512 ≤ addr
  · by_cases hyes : on = true ∧ 40960 ≤ addr ∧ addr < 41024
    · obtain ⟨rfl, y0, y1⟩ := hyes
      have hk' : kind = 1 ∨ kind = 2 := by
        rcases hk with hk | hk | hk
        · exact absurd hk.2 (by decide)
        · exact .inl hk
        · exact .inr hk.1
      rcases hk' with rfl | rfl
      · exact (specYes_ram _ _ _ _ _ _ _ _ _ _ _ _ _ _ addr v w hs hr h hw hb (fun w => swrite_1yes rom bank ram rb mode addr v _ w v0 v1 hm r0 r1 y0 y1 rfl)).mono (fun e w' k => fin (by unfold wBank; rw [if_neg (by omega)]) (by unfold wRam; rw [if_pos (by omega), if_pos rfl]) (by unfold wRb; rw [if_neg (by omega)]) (by unfold wOn; rw [if_neg (by omega)]) (by unfold wMode; rw [if_neg (by omega)]) k)
      · exact (specYes_ram _ _ _ _ _ _ _ _ _ _ _ _ _ _ addr v w hs hr h hw hb (fun w => swrite_2yes rom bank ram rb mode addr v _ w v0 v1 hm r0 r1 y0 y1 rfl)).mono (fun e w' k => fin (by unfold wBank; rw [if_neg (by omega)]) (by unfold wRam; rw [if_pos (by omega), if_pos rfl]) (by unfold wRb; rw [if_neg (by omega)]) (by unfold wOn; rw [if_neg (by omega)]) (by unfold wMode; rw [if_neg (by omega)]) k)
    · have hno : on = false ∨ addr < 40960 ∨ 41024 ≤ addr := by cases on <;> simp at hyes ⊢; omega
      rcases hk with ⟨rfl, hon⟩ | rfl | ⟨rfl, hmode⟩
      · exact (specYes_n2 _ _ _ _ _ _ _ _ _ _ _ _ _ _ addr v w hs hr h hw hb (fun w => swrite_0 rom bank ram rb on mode addr v w v0 v1)).mono (fun e w' k => fin (by unfold wBank; rw [if_neg (by omega)]) (by unfold wRam; rcases hno with h | h | h; (split; rw [if_neg (by simp [h])]; rfl); rw [if_neg (by omega)]; rw [if_neg (by omega)]) (by unfold wRb; rw [if_neg (by omega)]) (by unfold wOn; rw [if_neg (by omega)]) (by unfold wMode; rw [if_neg (by omega)]) k)
      · exact (specYes_n2 _ _ _ _ _ _ _ _ _ _ _ _ _ _ addr v w hs hr h hw hb (fun w => swrite_1no rom bank ram rb on mode addr v w v0 v1 big hno)).mono (fun e w' k => fin (by unfold wBank; rw [if_neg (by omega)]) (by unfold wRam; rcases hno with h | h | h; (split; rw [if_neg (by simp [h])]; rfl); rw [if_neg (by omega)]; rw [if_neg (by omega)]) (by unfold wRb; rw [if_neg (by omega)]) (by unfold wOn; rw [if_neg (by omega)]) (by unfold wMode; rw [if_neg (by omega)]) k)
      · exact (specYes_n2 _ _ _ _ _ _ _ _ _ _ _ _ _ _ addr v w hs hr h hw hb (fun w => swrite_2no rom bank ram rb on mode addr v w v0 v1 big hno)).mono (fun e w' k => fin (by unfold wBank; rw [if_neg (by omega)]) (by unfold wRam; rcases hno with h | h | h; (split; rw [if_neg (by simp [h])]; rfl); rw [if_neg (by omega)]; rw [if_neg (by omega)]) (by unfold wRb; rw [if_neg (by omega)]) (by unfold wOn; rw [if_neg (by omega)]) (by unfold wMode; rw [if_neg (by omega)]) k)
  · rcases hk with ⟨rfl, hon⟩ | rfl | ⟨rfl, hmode⟩
    · exact (specYes_n2 _ _ _ _ _ _ _ _ _ _ _ _ _ _ addr v w hs hr h hw hb (fun w => swrite_0 rom bank ram rb on mode addr v w v0 v1)).mono (fun e w' k => fin (by unfold wBank; split; rw [if_neg (by omega), if_neg (by omega)]; rfl) (by unfold wRam; rw [if_neg (by omega)]) (by unfold wRb; rw [if_neg (by omega)]) (by unfold wOn; rw [if_neg (by omega)]) (by unfold wMode; rw [if_neg (by omega)]) k)
    · have q : addr < 128 ∨ (128 ≤ addr ∧ addr < 256) ∨ (256 ≤ addr ∧ addr < 384) ∨ (384 ≤ addr ∧ addr < 512) := by omega
      rcases q with q | q | q | q
      · exact (specYes_n2 _ _ _ _ _ _ _ _ _ _ _ _ _ _ addr v w hs hr h hw hb (fun w => swrite_10 rom bank ram rb on mode addr v w v0 v1 a0 q)).mono (fun e w' k => fin (by unfold wBank; rw [if_neg (by omega)]) (by unfold wRam; rw [if_neg (by omega)]) (by unfold wRb; rw [if_neg (by omega)]) (by unfold wOn; rw [if_pos (by omega)]) (by unfold wMode; rw [if_neg (by omega)]) k)
      · exact (specYes_n2 _ _ _ _ _ _ _ _ _ _ _ _ _ _ addr v w hs hr h hw hb (fun w => swrite_11 rom bank ram rb on mode addr v w v0 v1 q.1 q.2)).mono (fun e w' k => fin (by unfold wBank; rw [if_pos (by omega), if_pos rfl]) (by unfold wRam; rw [if_neg (by omega)]) (by unfold wRb; rw [if_neg (by omega)]) (by unfold wOn; rw [if_neg (by omega)]) (by unfold wMode; rw [if_neg (by omega)]) k)
      · exact (specYes_n2 _ _ _ _ _ _ _ _ _ _ _ _ _ _ addr v w hs hr h hw hb (fun w => swrite_12 rom bank ram rb on mode addr v w v0 v1 q.1 q.2)).mono (fun e w' k => fin (by unfold wBank; rw [if_neg (by omega)]) (by unfold wRam; rw [if_neg (by omega)]) (by unfold wRb; rw [if_pos (by omega)]) (by unfold wOn; rw [if_neg (by omega)]) (by unfold wMode; rw [if_neg (by omega)]) k)
      · exact (specYes_n2 _ _ _ _ _ _ _ _ _ _ _ _ _ _ addr v w hs hr h hw hb (fun w => swrite_13 rom bank ram rb on mode addr v w v0 v1 q.1 q.2)).mono (fun e w' k => fin (by unfold wBank; rw [if_neg (by omega)]) (by unfold wRam; rw [if_neg (by omega)]) (by unfold wRb; rw [if_neg (by omega)]) (by unfold wOn; rw [if_neg (by omega)]) (by unfold wMode; rw [if_pos (by omega)]) k)
    · have q : addr < 128 ∨ (128 ≤ addr ∧ addr < 256) ∨ (256 ≤ addr ∧ addr < 384) ∨ (384 ≤ addr ∧ addr < 512) := by omega
      rcases q with q | q | q | q
      · exact (specYes_n2 _ _ _ _ _ _ _ _ _ _ _ _ _ _ addr v w hs hr h hw hb (fun w => swrite_20 rom bank ram rb on mode addr v w v0 v1 a0 q)).mono (fun e w' k => fin (by unfold wBank; rw [if_neg (by omega)]) (by unfold wRam; rw [if_neg (by omega)]) (by unfold wRb; rw [if_neg (by omega)]) (by unfold wOn; rw [if_pos (by omega)]) (by unfold wMode; rw [if_neg (by omega)]) k)
      · exact (specYes_n2 _ _ _ _ _ _ _ _ _ _ _ _ _ _ addr v w hs hr h hw hb (fun w => swrite_21 rom bank ram rb on mode addr v w v0 v1 q.1 q.2)).mono (fun e w' k => fin (by unfold wBank; rw [if_pos (by omega), if_neg (by omega), if_pos rfl]) (by unfold wRam; rw [if_neg (by omega)]) (by unfold wRb; rw [if_neg (by omega)]) (by unfold wOn; rw [if_neg (by omega)]) (by unfold wMode; rw [if_neg (by omega)]) k)
      · exact (specYes_n2 _ _ _ _ _ _ _ _ _ _ _ _ _ _ addr v w hs hr h hw hb (fun w => swrite_22 rom bank ram rb on mode addr v w v0 v1 q.1 q.2)).mono (fun e w' k => fin (by unfold wBank; rw [if_neg (by omega)]) (by unfold wRam; rw [if_neg (by omega)]) (by unfold wRb; rw [if_pos (by omega)]) (by unfold wOn; rw [if_neg (by omega)]) (by unfold wMode; rw [if_neg (by omega)]) k)
      · exact (specYes_n2 _ _ _ _ _ _ _ _ _ _ _ _ _ _ addr v w hs hr h hw hb (fun w => swrite_23 rom bank ram rb on mode addr v w v0 v1 q.1 q.2)).mono (fun e w' k => fin (by unfold wBank; rw [if_neg (by omega)]) (by unfold wRam; rw [if_neg (by omega)]) (by unfold wRb; rw [if_neg (by omega)]) (by unfold wOn; rw [if_neg (by omega)]) (by unfold wMode; rw [if_neg (by omega)]) k)
theorem specWrite_any (rom : ByteArray) (kind bank : Int) (ram : ByteArray) (rb : Int) (on : Bool) (mode : Int) (addr v : Int) (w : World) (hs : rom.size ≤ maxLen) (hr : ram.size ≤ maxLen) :
    Calls Try.prog 24 #[.agg #[.string rom, .int .i64 kind, .int .i64 bank, .string ram, .int .i64 rb, .bool on, .int .i64 mode], .int .i64 addr, .int .i64 v] w fun e w' => e = .returned (back rom kind bank ram rb on mode addr v) ∧ Below w.heap.size w w' := by
  unfold back
  cases h : okB rom kind bank ram rb on mode with
  | false =>
    rw [if_neg (by simp)]
    exact specNo1 rom kind bank ram rb on mode addr v w hs hr h
  | true =>
    cases hw : inB addr 0 65535 with
    | false =>
      rw [if_neg (by simp)]
      exact specNo3 rom kind bank ram rb on mode addr v w hs hr h hw
    | true =>
      cases hb : inB v 0 255 with
      | false =>
        rw [if_neg (by simp)]
        exact specNo4 rom kind bank ram rb on mode addr v w hs hr h hw hb
      | true =>
        rw [if_pos ⟨rfl, rfl, rfl⟩]
        exact specWrite_right rom kind bank ram rb on mode addr v w hs hr h hw hb
end Go.Proofs.Ytjipfhioobebiaa.CartY
