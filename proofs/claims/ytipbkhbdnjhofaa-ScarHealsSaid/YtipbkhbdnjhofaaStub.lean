/- The landed package scar's contracts, together. -/
import Derived.Test.YtipbkhbdnjhofaaLandC
import Derived.Test.YtipbkhbdnjhofaaLandD
import Derived.Test.YtipbkhbdnjhofaaWakes
namespace Go.Proofs.Ytipbkhbdnjhofaa
theorem wakes_spec : WakesSpec := wakes_walk note_spec has_spec worst_spec
end Go.Proofs.Ytipbkhbdnjhofaa
