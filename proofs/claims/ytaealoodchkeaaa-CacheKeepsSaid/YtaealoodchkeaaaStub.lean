/- The contracts of the landed package cache, real. -/
import Derived.Test.YtaealoodchkeaaaLandH
namespace Go.Proofs.Ytaealoodchkeaaa
theorem all_specs : EntrySpec ∧ GetSpec ∧ PutSpec ∧ FreshSpec ∧ UntilSpec ∧ MaySpec ∧ WakesSpec := ⟨entry_spec, get_spec, put_spec, fresh_spec, until_spec, may_spec, wakes_spec⟩
end Go.Proofs.Ytaealoodchkeaaa
