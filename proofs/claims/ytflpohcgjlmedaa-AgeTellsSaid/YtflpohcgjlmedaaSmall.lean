/- Ticks: the small functions. -/
import Derived.Test.YtflpohcgjlmedaaProg
import Derived.Test.YtflpohcgjlmedaaPure
import Derived.WalkKit
import Derived.Handy
import Derived.WalkSpells
import Derived.WalkLawsBesides
import Derived.WalkSmall
import Derived.Lib.Hide
import Derived.Below
import Derived.Deep.Light
import Derived.Deep.LoopGhost
import Derived.Deep.QuietTactic
import Derived.BigQuiet
import Derived.ProofKit
set_option linter.unusedSimpArgs false
set_option linter.unusedVariables false
namespace Go.Proofs.Ytflpohcgjlmedaa
open Go.RowKit

theorem ret_i64 {a b : Int} (h : a = b) : Ending.returned (.int .i64 a) = Ending.returned (.int .i64 b) := by rw [h]
theorem ret_bo {a b : Bool} (h : a = b) : Ending.returned (.bool a) = Ending.returned (.bool b) := by rw [h]

theorem tickOf_any (t : Int) (w : World) : Calls Try.prog 19 #[.int .i64 t] w fun e w' => e = .returned (.int .i64 (P.clamp t)) ∧ w' = w := by
  go_enter Try.func19, Try.ntmps19
  go_wp2_with fail
  all_goals
    go_ret
    refine ⟨ret_i64 ?_, rfl⟩
    unfold P.clamp
    repeat' split
    all_goals (first | omega | (split at * <;> omega))
theorem plus_any (t n : Int) (w : World) (h0 : 0 ≤ t) (h1 : t ≤ 1073741824) (h2 : 0 ≤ n) (h3 : n ≤ 1073741824) : Calls Try.prog 20 #[.int .i64 t, .int .i64 n] w fun e w' => e = .returned (.int .i64 (P.plus t n)) ∧ w' = w := by
  have hn := P.clamp_id n h2 h3
  go_enter Try.func20, Try.ntmps20
  go_wp2_with fail
  all_goals
    go_ret
    refine ⟨ret_i64 ?_, rfl⟩
    unfold P.plus
    rw [hn]
    unfold P.clamp
    repeat' split
    all_goals omega
theorem behind_any (t s : Int) (w : World) (h0 : 0 ≤ t) (h1 : t ≤ 1073741824) (h2 : 0 ≤ s) (h3 : s ≤ 1073741824) : Calls Try.prog 21 #[.int .i64 t, .int .i64 s] w fun e w' => e = .returned (.int .i64 (P.gap t s)) ∧ w' = w := by
  go_enter Try.func21, Try.ntmps21
  go_wp2_with fail
  all_goals
    go_ret
    refine ⟨ret_i64 ?_, rfl⟩
    unfold P.gap
    first | rfl | (split <;> omega)
theorem clamp_any (t : Int) (w : World) : Calls Try.prog 11 #[.int .i64 t] w fun e w' => e = .returned (.int .i64 (P.clamp t)) ∧ w' = w := by
  go_enter Try.func11, Try.ntmps11
  go_wp2_with fail
  refine (tickOf_any t _).mono ?_
  rintro e w1 ⟨rfl, rfl⟩
  go_wp2_with fail
  go_ret
  exact ⟨rfl, rfl⟩
theorem rclamp_any (t : Int) (w : World) : Calls Try.prog 12 #[.int .i64 t] w fun e w' => e = .returned (.int .i64 (P.clamp t)) ∧ w' = w := by
  have h : (t < 0 ∧ P.clamp t = 0) ∨ (¬ t < 0 ∧ 1073741824 < t ∧ P.clamp t = 1073741824) ∨ (¬ t < 0 ∧ ¬ 1073741824 < t ∧ P.clamp t = t) := by
    unfold P.clamp
    repeat' split
    all_goals omega
  rcases h with ⟨h, h3⟩ | ⟨h, h2, h3⟩ | ⟨h, h2, h3⟩
  all_goals
    go_enter Try.func12, Try.ntmps12
    go_wp2_with fail
    go_ret
    exact ⟨ret_i64 (by first | rfl | rw [h3]), rfl⟩
theorem gone_any (s n : Int) (w : World) : Calls Try.prog 15 #[.int .i64 s, .int .i64 n] w fun e w' => e = .returned (.int .i64 (P.gone s n)) ∧ w' = w := by
  go_enter Try.func15, Try.ntmps15
  go_wp2_with fail
  refine (tickOf_any n _).mono ?_
  rintro e w1 ⟨rfl, rfl⟩
  go_wp2_with fail
  refine (tickOf_any s _).mono ?_
  rintro e w1 ⟨rfl, rfl⟩
  go_wp2_with fail
  refine (behind_any _ _ _ (P.clamp_ge n) (P.clamp_le n) (P.clamp_ge s) (P.clamp_le s)).mono ?_
  rintro e w1 ⟨rfl, rfl⟩
  go_wp2_with fail
  go_ret
  exact ⟨rfl, rfl⟩
theorem rgone_any (s n : Int) (w : World) : Calls Try.prog 16 #[.int .i64 s, .int .i64 n] w fun e w' => e = .returned (.int .i64 (P.gone s n)) ∧ w' = w := by
  have b1 := P.clamp_ge n
  have b2 := P.clamp_le n
  have b3 := P.clamp_ge s
  have b4 := P.clamp_le s
  go_enter Try.func16, Try.ntmps16
  go_wp2_with fail
  refine (rclamp_any n _).mono ?_
  rintro e w1 ⟨rfl, rfl⟩
  go_wp2_with fail
  refine (rclamp_any s _).mono ?_
  rintro e w1 ⟨rfl, rfl⟩
  go_wp2_with fail
  all_goals
    go_ret
    refine ⟨ret_i64 ?_, rfl⟩
    unfold P.gone P.gap
    first | rfl | (split <;> omega)
theorem old_any (s a n : Int) (w : World) : Calls Try.prog 17 #[.int .i64 s, .int .i64 a, .int .i64 n] w fun e w' => e = .returned (.bool (P.old s a n)) ∧ w' = w := by
  have HP := Lib.hid (show P.plus (P.clamp s) (P.clamp a) = P.plus (P.clamp s) a by unfold P.plus; rw [P.clamp_clamp])
  go_enter Try.func17, Try.ntmps17
  go_wp2_with fail
  refine (tickOf_any n _).mono ?_
  rintro e w1 ⟨rfl, rfl⟩
  go_wp2_with fail
  refine (tickOf_any s _).mono ?_
  rintro e w1 ⟨rfl, rfl⟩
  go_wp2_with fail
  refine (tickOf_any a _).mono ?_
  rintro e w1 ⟨rfl, rfl⟩
  go_wp2_with fail
  refine (plus_any _ _ _ (P.clamp_ge s) (P.clamp_le s) (P.clamp_ge a) (P.clamp_le a)).mono ?_
  rw [HP.out]
  rintro e w1 ⟨rfl, rfl⟩
  go_wp2_with fail
  go_ret
  exact ⟨ret_bo (by unfold P.old; simp), rfl⟩
end Go.Proofs.Ytflpohcgjlmedaa
