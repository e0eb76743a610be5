/- Rows of yes and no. -/
import Derived.Test.YtciohjgcndgiaaaSpecs
set_option linter.unusedSimpArgs false
set_option linter.unusedVariables false
namespace Go.Proofs.Ytciohjgcndgiaaa
open Go.RowKit Go.Proofs.Ytciohjgcndgiaaa.Kind

def VK : Kind Try.prog Bool where
  enc := fun b => [.bool b]
  k := 1
  T := 4
  S := 59
  z := .bool false
  bytes := 1
  hk := fun _ => rfl
  h1 := by
    intro x v hv
    simp only [List.mem_cons, List.not_mem_nil, or_false] at hv
    rcases hv with rfl
    rfl
  hu := Try.underlying59
  hi := by kernel_rfl
  hz := rfl
  hk0 := by decide
  hb := by decide
theorem VK.one {w : World} {b o : Nat} {l : List Bool} (h : VK.At w b o l) {j : Nat} {x : Bool} (hx : l[j]? = some x) : w.cell? ⟨b, o + j, none⟩ = some (.bool x) := by
  have h1 := h j x hx 0 _ rfl
  have e : o + j * VK.k + 0 = o + j := by show o + j * 1 + 0 = o + j; omega
  rwa [e] at h1
end Go.Proofs.Ytciohjgcndgiaaa
