/- The landed plan package's contracts, all of them. -/
import Derived.Test.YtlceeeajhejedaaWakes
import Derived.Test.YtlceeeajhejedaaAnswer
import Derived.Test.YtlceeeajhejedaaCheckQ
import Derived.Test.YtlceeeajhejedaaNamesQ
import Derived.Test.YtlceeeajhejedaaGoodQ
namespace Go.Proofs.Ytlceeeajhejedaa
theorem answer_spec : AnswerSpec := answer_real
theorem fate_spec : FateSpec := fate_real
theorem good_spec : GoodSpec := good_real
theorem names_spec : NamesSpec := names_real
theorem check_spec : CheckSpec theR := check_real
theorem wakes_spec : WakesSpec := wakes_walk theR theR_w answer_spec fate_spec check_spec names_spec
end Go.Proofs.Ytlceeeajhejedaa
