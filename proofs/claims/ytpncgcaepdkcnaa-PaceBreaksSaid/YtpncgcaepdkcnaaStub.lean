/- The contracts of the landed package pace, brought together. -/
import Derived.Test.YtpncgcaepdkcnaaWakes
import Derived.Test.YtpncgcaepdkcnaaLandP
import Derived.Test.YtpncgcaepdkcnaaLandE
namespace Go.Proofs.Ytpncgcaepdkcnaa
theorem wakes_spec : WakesSpec := wakes_walk may_spec when_spec plan_spec keeps_spec starts_spec
end Go.Proofs.Ytpncgcaepdkcnaa
