/- A letter is put by a statement that draws its order: what is left of it. -/
import Derived.Test.YtomiajgedcpjiaaWakes
import Derived.Deep.DeepCutAuto
set_option linter.unusedSimpArgs false
set_option linter.unusedVariables false
namespace Go.Proofs.Ytomiajgedcpjiaa
open Go.RowKit Go.Proofs.Ytomiajgedcpjiaa.Kind

theorem row_bare {α : Type} {K : Kind Try.prog α} {w w' : World} {a : Option Addr} {c : Nat} (h : K.RowC w a c []) : K.RowC w' a c [] := ⟨h.1, h.2.1, h.2.2.1, fun h => by simp at h⟩
/-- A row of one letter in a block. -/
theorem row_in {w : World} {g : Nat} {x : Lt} {t : TypeId} (h : w.heap[g]? = some (.cells #[.int .i8 x.kind, .int .i64 x.fr, .int .i64 x.num, .int .i64 x.sock, .string x.text, .int .i64 x.e] t (0, 0))) : LK.RowC w (some ⟨g, 0, none⟩) 1 [x] := by
  refine ⟨by simp, by unfold maxLen; omega, (fun e => by cases e), fun _ => ⟨g, 0, rfl, lt_of_block h, ?_⟩⟩
  intro j y hy i v hv
  have hj : j = 0 := by have := (List.getElem?_eq_some_iff.1 hy).1; simp at this; omega
  subst hj
  simp at hy
  subst hy
  have hi : i < 6 := by have := (List.getElem?_eq_some_iff.1 hv).1; simpa [LK, Lt.enc] using this
  obtain ⟨⟨c0, c1, c2, c3, c4, c5⟩, _⟩ := box6 h
  match i, hi with
  | 0, _ | 1, _ | 2, _ | 3, _ | 4, _ | 5, _ => simp [LK, Lt.enc] at hv; subst hv; assumption

/-- A variable that holds a duct, laid or written since wr. -/
def Left (wr wx : World) (z : Int) (cl : Bool) (L : List Lt) (s : Value) : Prop :=
  ∃ g a c, s = .pointer (some ⟨g, 0, none⟩) ∧ wr.heap.size ≤ g ∧ wx.heap[g]? = some (.cells #[.int .i64 z, .slice a L.length c, .bool cl] 26 (0, 0)) ∧ LK.RowC wx a c L ∧ Below wr.heap.size wr wx
theorem left_new {wr w2 : World} {z : Int} {cl : Bool} {L : List Lt} {a : Option Addr} {c base : Nat} (hF : LK.FarC w2 base a c L) (hB : Below wr.heap.size wr w2) :
    Left wr (w2.alloc (.cells #[.int .i64 z, .slice a L.length c, .bool cl] 26)) z cl L (.pointer (some ⟨w2.heap.size, 0, none⟩)) := by
  have h1 := laid1 w2 (.cells #[.int .i64 z, .slice a L.length c, .bool cl] 26)
  have h2 := (hF.below ((Below.refl _ _).alloc (Nat.le_refl _) (.cells #[.int .i64 z, .slice a L.length c, .bool cl] 26))).row
  have h3 := hB.alloc hB.size (.cells #[.int .i64 z, .slice a L.length c, .bool cl] 26)
  exact ⟨w2.heap.size, a, c, rfl, hB.size, h1, h2, h3⟩
theorem left_set {wr w2 : World} {z : Int} {cl : Bool} {L : List Lt} {a : Option Addr} {c base g : Nat} {x0 y0 z0 : Value} (hF : LK.FarC w2 base a c L) (hB : Below wr.heap.size wr w2) (hg : g < base) (hwr : wr.heap.size ≤ g) (hq : w2.heap[g]? = some (.cells #[x0, y0, z0] 26 (0, 0))) :
    Left wr (((w2.setCell ⟨g, 0, none⟩ (.int .i64 z)).setCell ⟨g, 1, none⟩ (.slice a L.length c)).setCell ⟨g, 2, none⟩ (.bool cl)) z cl L (.pointer (some ⟨g, 0, none⟩)) := by
  have h1 := set3_at hq (.int .i64 z) (.slice a L.length c) (.bool cl)
  have h2 := (set3_far hF hg (.int .i64 z) (.slice a L.length c) (.bool cl)).row
  have h3 := set3_below hB hwr (.int .i64 z) (.slice a L.length c) (.bool cl)
  unfold set3 at h1 h2 h3
  exact ⟨g, a, c, rfl, hwr, h1, h2, h3⟩
end Go.Proofs.Ytomiajgedcpjiaa
