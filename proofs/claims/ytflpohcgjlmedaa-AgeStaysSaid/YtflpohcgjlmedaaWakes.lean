/- What the document says of four numbers, and the program does. -/
import Derived.Test.YtflpohcgjlmedaaRFirst
set_option linter.unusedSimpArgs false
set_option linter.unusedVariables false
namespace Go.Proofs.Ytflpohcgjlmedaa
open Go.RowKit

theorem wk1 : P.first [7, 3, 3] = (1, 3) := by decide +kernel
theorem wk2 : P.later 5 [3, 2] = 10 := by decide +kernel
theorem wk3 : P.later 1073741824 [1] = 1073741824 := by decide +kernel
theorem wk4 : P.old 5 3 7 = false := by decide +kernel
theorem wk5 : P.old 5 3 8 = true := by decide +kernel
theorem wk6 : P.gone 2 9 = 7 := by decide +kernel

set_option maxHeartbeats 4000000 in
set_option maxRecDepth 1000000 in
theorem wakes_any (w : World) : Calls Try.prog 8 #[] w fun e w' => e = .returned (.bool true) ∧ Below w.heap.size w w' := by
  go_enter Try.func8, Try.ntmps8
  go_wp2_with fail
  refine (first_any [7, 3, 3] (some ⟨w.heap.size, 0, none⟩) 3 (w.alloc (.cells #[.int .i64 7, .int .i64 3, .int .i64 3] 3)) (by simp) (rowI_at _ _ _ _ _ rfl rfl)).mono ?_
  rw [wk1]
  dsimp only
  rintro e w1 ⟨rfl, hb⟩
  have hb1 := ((Below.refl w.heap.size w).alloc (Nat.le_refl _) _).trans (hb.mono (by simp))
  clear hb
  go_wp2_with fail
  refine (later_any 5 [3, 2] (some ⟨w1.heap.size, 0, none⟩) 2 (w1.alloc (.cells #[.int .i64 3, .int .i64 2] 3)) (by simp) (rowI_at _ _ _ _ _ rfl rfl)).mono ?_
  rw [wk2]
  rintro e w2 ⟨rfl, h2⟩
  subst w2
  have hb2 := hb1.alloc hb1.size (.cells #[.int .i64 3, .int .i64 2] 3)
  go_wp2_with fail
  refine (later_any 1073741824 [1] (some ⟨w1.heap.size + 1, 0, none⟩) 1 ((w1.alloc (.cells #[.int .i64 3, .int .i64 2] 3)).alloc (.cells #[.int .i64 1] 3)) (by simp) (rowI_at _ _ _ _ _ (by simp) rfl)).mono ?_
  rw [wk3]
  rintro e w2 ⟨rfl, h2⟩
  subst w2
  have hb3 := hb2.alloc hb2.size (.cells #[.int .i64 1] 3)
  go_wp2_with fail
  refine (old_any 5 3 7 _).mono ?_
  rw [wk4]
  rintro e w2 ⟨rfl, h2⟩
  subst w2
  go_wp2_with fail
  refine (old_any 5 3 8 _).mono ?_
  rw [wk5]
  rintro e w2 ⟨rfl, h2⟩
  subst w2
  go_wp2_with fail
  refine (gone_any 2 9 _).mono ?_
  rw [wk6]
  rintro e w2 ⟨rfl, h2⟩
  subst w2
  go_wp2_with fail
  go_ret
  exact ⟨rfl, hb3⟩
end Go.Proofs.Ytflpohcgjlmedaa
