/- Contracts of layer 1's small functions. -/
import Derived.Test.YtpeohgmceadmeaaDoorProg
import Derived.Test.YtpeohgmceadmeaaDoorName
import Derived.WalkKit
import Derived.BigCall
import Derived.LoopTactic
import Derived.Outline
import Derived.Deep.QuietTactic
import Derived.BigQuiet
import Derived.Lib.Hide
namespace Go.Proofs.YtpeohgmceadmeaaDoor
open Go.RowKit

theorem ret_bool {a b : Bool} (h : a = b) : Ending.returned (.bool a) = .returned (.bool b) := by rw [h]
theorem ret_int {k : IntKind} {a b : Int} (h : a = b) : Ending.returned (.int k a) = .returned (.int k b) := by rw [h]

set_option maxHeartbeats 400000 in
theorem isLetter_any (r : Int) (w : World) :
    Calls Tryd.prog 35 #[.int .i32 r] w fun e w' => e = .returned (.bool (P.letB r)) ∧ w = w' := by
  go_enter Tryd.func35, Tryd.ntmps35
  go_wp2
  all_goals (go_ret; refine ⟨ret_bool ?_, rfl⟩; rw [Bool.eq_iff_iff]; simp only [P.letB, decide_eq_true_eq, beq_iff_eq, beq_eq_false_iff_ne, Bool.false_eq_true, true_iff, false_iff] at *; omega)

set_option maxHeartbeats 400000 in
theorem isDigit_any (r : Int) (w : World) :
    Calls Tryd.prog 24 #[.int .i32 r] w fun e w' => e = .returned (.bool (P.digB r)) ∧ w = w' := by
  go_enter Tryd.func24, Tryd.ntmps24
  go_wp2
  all_goals (go_ret; refine ⟨ret_bool ?_, rfl⟩; rw [Bool.eq_iff_iff]; simp only [P.digB, decide_eq_true_eq, Bool.false_eq_true, true_iff, false_iff] at *; omega)

theorem fol_dot (b r : Int) (h : (r == 46) = true) : P.fol b r = decide (¬ b = 46 ∧ ¬ b = 45) := by rw [P.fol, if_pos (by simpa using h)]
theorem fol_hyphen (b r : Int) (h : (r == 46) = false) (h' : (r == 45) = true) : P.fol b r = decide (¬ b = 46) := by rw [P.fol, if_neg (by simpa using h), if_pos (by simpa using h')]
theorem fol_sign (b r : Int) (h : (r == 46) = false) (h' : (r == 45) = false) : P.fol b r = (P.letB r || P.digB r) := by rw [P.fol, if_neg (by simpa using h), if_neg (by simpa using h')]

set_option maxHeartbeats 400000 in
theorem follows_any (b r : Int) (w : World) :
    Calls Tryd.prog 29 #[.int .i32 b, .int .i32 r] w fun e w' => e = .returned (.bool (P.fol b r)) ∧ w = w' := by
  go_enter Tryd.func29, Tryd.ntmps29
  go_wp2_with (first | (go_at_call 35; refine (isLetter_any _ _).mono ?_; rintro e w' ⟨rfl, rfl⟩) | (go_at_call 24; refine (isDigit_any _ _).mono ?_; rintro e w' ⟨rfl, rfl⟩))
  all_goals (go_ret; refine ⟨ret_bool ?_, rfl⟩)
  all_goals first | (rw [fol_dot _ _ (by assumption)]; rw [Bool.eq_iff_iff]; simp_all; done) | (rw [fol_hyphen _ _ (by assumption) (by assumption)]; rw [Bool.eq_iff_iff]; simp_all; done) | (rw [fol_sign _ _ (by assumption) (by assumption)]; simp_all; done)

set_option maxHeartbeats 400000 in
theorem foldRune_any (r : Int) (w : World) (h0 : 0 ≤ r) (h1 : r ≤ 1114111) :
    Calls Tryd.prog 21 #[.int .i32 r] w fun e w' => e = .returned (.int .i32 (P.foldR r)) ∧ w = w' := by
  go_enter Tryd.func21, Tryd.ntmps21
  go_wp2
  all_goals (go_ret; refine ⟨ret_int ?_, rfl⟩)
  all_goals (unfold P.foldR; first | (rw [if_pos (by omega)]; done) | (rw [if_neg (by omega)]; done))

set_option maxHeartbeats 400000 in
theorem mayPort_any (n : Int) (w : World) :
    Calls Tryd.prog 14 #[.int .i64 n] w fun e w' => e = .returned (.bool (P.portB n)) ∧ w = w' := by
  go_enter Tryd.func14, Tryd.ntmps14
  go_wp2
  all_goals (go_ret; refine ⟨ret_bool ?_, rfl⟩; rw [Bool.eq_iff_iff]; simp only [P.portB, decide_eq_true_eq, Bool.false_eq_true, true_iff, false_iff] at *; omega)

set_option maxHeartbeats 400000 in
theorem rletter_any (r : Int) (w : World) :
    Calls Tryd.prog 27 #[.int .i32 r] w fun e w' => e = .returned (.bool (P.letB r)) ∧ w = w' := by
  go_enter Tryd.func27, Tryd.ntmps27
  go_wp2
  all_goals (go_ret; refine ⟨ret_bool ?_, rfl⟩; rw [Bool.eq_iff_iff]; simp only [P.letB, Bool.and_eq_true, Bool.or_eq_true, bne_iff_ne, beq_iff_eq, decide_eq_true_eq, ne_eq, Bool.false_eq_true, true_iff, false_iff] at *; omega)

set_option maxHeartbeats 400000 in
theorem rsign_any (r : Int) (w : World) :
    Calls Tryd.prog 32 #[.int .i32 r] w fun e w' => e = .returned (.bool (P.sgB r)) ∧ w = w' := by
  go_enter Tryd.func32, Tryd.ntmps32
  go_wp2_with (go_at_call 27; refine (rletter_any _ _).mono ?_; rintro e w' ⟨rfl, rfl⟩)
  all_goals (go_ret; refine ⟨ret_bool ?_, rfl⟩; simp_all [P.sgB, P.digB]; try omega)
end Go.Proofs.YtpeohgmceadmeaaDoor
