/- The program's calls have their contracts. -/
import Derived.Test.YtjiepdgflfhkcaaWakes
import Derived.Test.YtjiepdgflfhkcaaAll
import Derived.Test.YtjiepdgflfhkcaaAlone2
import Derived.Test.YtjiepdgflfhkcaaIs
import Derived.Test.YtjiepdgflfhkcaaLet
set_option linter.unusedSimpArgs false
set_option linter.unusedVariables false
namespace Go.Proofs.Ytjiepdgflfhkcaa
open Go.RowKit Go.Proofs.Ytjiepdgflfhkcaa.Kind Go.Proofs.Ytjiepdgflfhkcaa.P7

theorem all_spec : AllSpec := all_walk alone_spec
theorem wakes_spec : WakesSpec := wakes_walk all_spec pick_spec letter_spec
end Go.Proofs.Ytjiepdgflfhkcaa
