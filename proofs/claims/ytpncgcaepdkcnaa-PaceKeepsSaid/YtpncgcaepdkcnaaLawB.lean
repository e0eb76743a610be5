/- What the laws of paces are walked by. -/
import Derived.Test.YtpncgcaepdkcnaaSpecs
import Derived.Test.YtpncgcaepdkcnaaByOps
set_option linter.unusedSimpArgs false
set_option linter.unusedVariables false
namespace Go.Proofs.Ytpncgcaepdkcnaa
open R3 Go.RowKit Go.Proofs.Ytpncgcaepdkcnaa.Kind

theorem box_3 {w : World} {g : Nat} {x0 x1 x2 : Value} {t : TypeId} (h : w.heap[g]? = some (.cells #[x0, x1, x2] t (0, 0))) :
    (w.cell? ⟨g, 0, none⟩ = some x0 ∧ w.cell? ⟨g, 1, none⟩ = some x1 ∧ w.cell? ⟨g, 2, none⟩ = some x2) ∧ w.frozen? ⟨g, 0, none⟩ = false ∧ w.frozen? ⟨g, 1, none⟩ = false ∧ w.frozen? ⟨g, 2, none⟩ = false := by
  simp [World.cell?, World.frozen?, h]
def rowP (L : List Pc) : ByOps.Fact := ⟨fun v w => ∃ a1 c1, v = .slice a1 L.length c1 ∧ PK.RowC w a1 c1 L, fun _ _ _ ⟨a, c, e, h⟩ hb => ⟨a, c, e, h.below hb⟩⟩
def rowI (L : List Int) : ByOps.Fact := ⟨fun v w => ∃ a1 c1, v = .slice a1 L.length c1 ∧ IK.RowC w a1 c1 L, fun _ _ _ ⟨a, c, e, h⟩ hb => ⟨a, c, e, h.below hb⟩⟩
end Go.Proofs.Ytpncgcaepdkcnaa
