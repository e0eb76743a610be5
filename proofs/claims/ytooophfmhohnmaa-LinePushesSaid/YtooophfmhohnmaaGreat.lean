/- Rows that are too long, one and two; the ends of any row. -/
import Derived.Test.YtooophfmhohnmaaWakes
set_option linter.unusedSimpArgs false
set_option linter.unusedVariables false
namespace Go.Proofs.Ytooophfmhohnmaa
open Go.RowKit

theorem great_one (a : Option Addr) (n c : Nat) (w : World) (hn : n ≤ maxLen) :
    Calls Try.prog 8 #[.slice (some ⟨w.heap.size, 0, none⟩) 1 1] (w.alloc (.cells #[.slice a n c] 22)) fun e w' => e = .returned (.bool (decide (200 < n))) ∧ Below w.heap.size w w' := by
  have h := great_any [(a, n, c)] w.heap.size (w.alloc (.cells #[.slice a n c] 22)) (by
    intro j r hr
    match j, hr with
    | 0, hr => simp at hr; subst hr; rw [World.cell?_alloc_new]; rfl) (by simp) (by intro r hr; simp at hr; subst hr; exact hn)
  refine h.mono ?_
  rintro e w' ⟨rfl, rfl⟩
  exact ⟨by simp, (Below.refl _ _).alloc (Nat.le_refl _) _⟩
theorem great_two (a b : Option Addr) (n c k d : Nat) (w : World) (hn : n ≤ maxLen) (hk : k ≤ maxLen) :
    Calls Try.prog 8 #[.slice (some ⟨w.heap.size, 0, none⟩) 2 2] (w.alloc (.cells #[.slice a n c, .slice b k d] 22)) fun e w' => e = .returned (.bool (decide (200 < n) || decide (200 < k))) ∧ Below w.heap.size w w' := by
  have h := great_any [(a, n, c), (b, k, d)] w.heap.size (w.alloc (.cells #[.slice a n c, .slice b k d] 22)) (by
    intro j r hr
    match j, hr with
    | 0, hr => simp at hr; subst hr; rw [World.cell?_alloc_new]; rfl
    | 1, hr => simp at hr; subst hr; rw [World.cell?_alloc_new]; rfl) (by simp) (by intro r hr; simp at hr; rcases hr with rfl | rfl <;> assumption)
  refine h.mono ?_
  rintro e w' ⟨rfl, rfl⟩
  exact ⟨by simp, (Below.refl _ _).alloc (Nat.le_refl _) _⟩
theorem P.front_of (l : List Int) : ∃ x l1 q, (l = x :: l1 ∧ q = true) ∨ (l = [] ∧ x = 0 ∧ l1 = [] ∧ q = false) := by
  cases l with
  | nil => exact ⟨0, [], false, .inr ⟨rfl, rfl, rfl, rfl⟩⟩
  | cons x l => exact ⟨x, l, true, .inl ⟨rfl, rfl⟩⟩
theorem P.back_of (l : List Int) : ∃ x l1 q, (l = l1 ++ [x] ∧ q = true) ∨ (l = [] ∧ x = 0 ∧ l1 = [] ∧ q = false) := by
  rcases List.eq_nil_or_concat l with rfl | ⟨l1, x, rfl⟩
  · exact ⟨0, [], false, .inr ⟨rfl, rfl, rfl, rfl⟩⟩
  · exact ⟨x, l1, true, .inl ⟨by simp, rfl⟩⟩
theorem dec_self (L : List Int) : decide (L = L) = true := by simp
end Go.Proofs.Ytooophfmhohnmaa
