/-
  A fact of ours on two bytes, reckoned one by one: what both have and what one alone has is together what one or the other has.
-/
import Derived.WalkKit
namespace Go.Proofs.Ytmdaieopnapbgaa.Nats

theorem nat_and_xor : ∀ a, a < 256 → ∀ b, b < 256 → (a &&& b) + (a ^^^ b) = a ||| b := by decide +kernel

end Go.Proofs.Ytmdaieopnapbgaa.Nats
