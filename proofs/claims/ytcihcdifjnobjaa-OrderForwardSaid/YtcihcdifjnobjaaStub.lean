/- The landed order's contracts, and what stands on them. -/
import Derived.Test.YtcihcdifjnobjaaWakes
import Derived.Test.YtcihcdifjnobjaaLandH
namespace Go.Proofs.Ytcihcdifjnobjaa
theorem list_spec : ListSpec := list_land turns_spec
theorem wakes_spec : WakesSpec := wakes_walk list_spec first_spec place_spec
end Go.Proofs.Ytcihcdifjnobjaa
