/- The program's calls have their contracts. -/
import Derived.Test.YtomjnpcngphkiaaWakes
import Derived.Test.YtomjnpcngphkiaaAll
import Derived.Test.YtomjnpcngphkiaaAlone2
import Derived.Test.YtomjnpcngphkiaaIs
import Derived.Test.YtomjnpcngphkiaaLet
set_option linter.unusedSimpArgs false
set_option linter.unusedVariables false
namespace Go.Proofs.Ytomjnpcngphkiaa
open Go.RowKit Go.Proofs.Ytomjnpcngphkiaa.Kind Go.Proofs.Ytomjnpcngphkiaa.P7

theorem all_spec : AllSpec := all_walk alone_spec
theorem wakes_spec : WakesSpec := wakes_walk all_spec pick_spec letter_spec
end Go.Proofs.Ytomjnpcngphkiaa
