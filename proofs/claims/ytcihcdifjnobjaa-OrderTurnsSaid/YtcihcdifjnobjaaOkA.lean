/- Addresses whose numbers are such as the types have. -/
import Derived.Test.YtcihcdifjnobjaaPure
namespace Go.Proofs.Ytcihcdifjnobjaa
def okA (a : Ad) : Prop := (-128 ≤ a.f ∧ a.f ≤ 127) ∧ ((0 ≤ a.g0 ∧ a.g0 ≤ 65535) ∧ (0 ≤ a.g1 ∧ a.g1 ≤ 65535) ∧ (0 ≤ a.g2 ∧ a.g2 ≤ 65535) ∧ (0 ≤ a.g3 ∧ a.g3 ≤ 65535) ∧ (0 ≤ a.g4 ∧ a.g4 ≤ 65535) ∧ (0 ≤ a.g5 ∧ a.g5 ≤ 65535) ∧ (0 ≤ a.g6 ∧ a.g6 ≤ 65535) ∧ (0 ≤ a.g7 ∧ a.g7 ≤ 65535)) ∧ -9223372036854775808 ≤ a.p ∧ a.p ≤ 9223372036854775807
end Go.Proofs.Ytcihcdifjnobjaa
