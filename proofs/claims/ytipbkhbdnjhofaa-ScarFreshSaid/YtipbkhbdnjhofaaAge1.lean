/- Of stage 03: what old_any, clamp_any, P.clamp_ge, P.clamp_le, P.clamp_id leans on (part 1). -/
import Derived.Test.YtipbkhbdnjhofaaProg
import Derived.WalkKit
import Derived.Handy
import Derived.WalkSpells
import Derived.WalkLawsBesides
import Derived.WalkSmall
import Derived.Lib.Hide
import Derived.Below
import Derived.Deep.Light
import Derived.Deep.LoopGhost
import Derived.Deep.QuietTactic
import Derived.BigQuiet
import Derived.ProofKit
set_option linter.unusedSimpArgs false
set_option linter.unusedVariables false
namespace Go.Proofs.Ytipbkhbdnjhofaa.R3.P
/-- The tick that a number counts as. -/
def clamp (t : Int) : Int := if t < 0 then 0 else if 1073741824 < t then 1073741824 else t
def plus (t n : Int) : Int := clamp (t + clamp n)
def old (s a n : Int) : Bool := decide (plus (clamp s) a ≤ clamp n)
/-- The first least one of the ticks, 'k' being the next one's place, 'at' and 't' what was found till now. -/
def firstF : Nat → Int → Int → List Int → Int × Int
  | _, at_, t, [] => (at_, t)
  | k, at_, t, x :: l => if at_ < 0 ∨ clamp x < t then firstF (k + 1) k (clamp x) l else firstF (k + 1) at_ t l
def first (l : List Int) : Int × Int := firstF 0 (-1) 0 l
theorem clamp_ge (t : Int) : 0 ≤ clamp t := by unfold clamp; split <;> (try split) <;> omega
theorem clamp_le (t : Int) : clamp t ≤ 1073741824 := by unfold clamp; split <;> (try split) <;> omega
theorem clamp_id (t : Int) (h : 0 ≤ t) (h2 : t ≤ 1073741824) : clamp t = t := by unfold clamp; split <;> (try split) <;> omega
theorem clamp_clamp (t : Int) : clamp (clamp t) = clamp t := clamp_id _ (clamp_ge t) (clamp_le t)
end Go.Proofs.Ytipbkhbdnjhofaa.R3.P
namespace Go.Proofs.Ytipbkhbdnjhofaa.R3
open Go.RowKit
theorem ret_i64 {a b : Int} (h : a = b) : Ending.returned (.int .i64 a) = Ending.returned (.int .i64 b) := by rw [h]
theorem ret_bo {a b : Bool} (h : a = b) : Ending.returned (.bool a) = Ending.returned (.bool b) := by rw [h]
theorem tickOf_any (t : Int) (w : World) : Calls Try.prog 26 #[.int .i64 t] w fun e w' => e = .returned (.int .i64 (P.clamp t)) ∧ w' = w := by
  go_enter Try.func26, Try.ntmps26
  go_wp2_with fail
  all_goals
    go_ret
    refine ⟨ret_i64 ?_, rfl⟩
    unfold P.clamp
    repeat' split
    all_goals (first | omega | (split at * <;> omega))
theorem plus_any (t n : Int) (w : World) (h0 : 0 ≤ t) (h1 : t ≤ 1073741824) (h2 : 0 ≤ n) (h3 : n ≤ 1073741824) : Calls Try.prog 29 #[.int .i64 t, .int .i64 n] w fun e w' => e = .returned (.int .i64 (P.plus t n)) ∧ w' = w := by
  have hn := P.clamp_id n h2 h3
  go_enter Try.func29, Try.ntmps29
  go_wp2_with fail
  all_goals
    go_ret
    refine ⟨ret_i64 ?_, rfl⟩
    unfold P.plus
    rw [hn]
    unfold P.clamp
    repeat' split
    all_goals omega
theorem clamp_any (t : Int) (w : World) : Calls Try.prog 18 #[.int .i64 t] w fun e w' => e = .returned (.int .i64 (P.clamp t)) ∧ w' = w := by
  go_enter Try.func18, Try.ntmps18
  go_wp2_with fail
  refine (tickOf_any t _).mono ?_
  rintro e w1 ⟨rfl, rfl⟩
  go_wp2_with fail
  go_ret
  exact ⟨rfl, rfl⟩
theorem old_any (s a n : Int) (w : World) : Calls Try.prog 28 #[.int .i64 s, .int .i64 a, .int .i64 n] w fun e w' => e = .returned (.bool (P.old s a n)) ∧ w' = w := by
  have HP := Lib.hid (show P.plus (P.clamp s) (P.clamp a) = P.plus (P.clamp s) a by unfold P.plus; rw [P.clamp_clamp])
  go_enter Try.func28, Try.ntmps28
  go_wp2_with fail
  refine (tickOf_any n _).mono ?_
  rintro e w1 ⟨rfl, rfl⟩
  go_wp2_with fail
  refine (tickOf_any s _).mono ?_
  rintro e w1 ⟨rfl, rfl⟩
  go_wp2_with fail
  refine (tickOf_any a _).mono ?_
  rintro e w1 ⟨rfl, rfl⟩
  go_wp2_with fail
  refine (plus_any _ _ _ (P.clamp_ge s) (P.clamp_le s) (P.clamp_ge a) (P.clamp_le a)).mono ?_
  rw [HP.out]
  rintro e w1 ⟨rfl, rfl⟩
  go_wp2_with fail
  go_ret
  exact ⟨ret_bo (by unfold P.old; simp), rfl⟩
end Go.Proofs.Ytipbkhbdnjhofaa.R3
