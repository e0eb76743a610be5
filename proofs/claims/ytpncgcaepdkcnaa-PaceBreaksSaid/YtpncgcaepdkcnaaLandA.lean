/- Package pace as it landed: whether one is left, whether the next one may start, from when on. -/
import Derived.Test.YtpncgcaepdkcnaaLawB
set_option linter.unusedSimpArgs false
set_option linter.unusedVariables false
namespace Go.Proofs.Ytpncgcaepdkcnaa
open R3 Go.RowKit Go.Proofs.Ytpncgcaepdkcnaa.Kind

theorem rowI_one (w : World) (t : TypeId) (x : Int) : R3.RowI (w.alloc (.cells #[.int .i64 x] t)) (some ⟨w.heap.size, 0, none⟩) [x] := fun _ => ⟨w.heap.size, 0, rfl, by simp, fun j y hy => by
  cases j with
  | zero => simp at hy; subst hy; exact (cell1 (laid1 w _)).1
  | succ j => simp at hy⟩
set_option maxHeartbeats 4000000 in
set_option maxRecDepth 1000000 in
theorem left_any (s n : Int) (r : Bool) (w : World) (hr : r = decide (max s 0 < n)) :
    Calls Try.prog 17 #[.int .i64 s, .int .i64 n] w fun e w' => e = .returned (.bool r) ∧ w' = w := by
  have HR := Lib.hid hr
  clear hr
  by_cases h0 : s < 0
  · go_enter Try.func17, Try.ntmps17
    go_wp2_with fail
    go_ret
    refine ⟨ret_bo ?_, rfl⟩
    rw [HR.out]
    exact decide_eq_decide.2 (by omega)
  · go_enter Try.func17, Try.ntmps17
    go_wp2_with fail
    go_ret
    refine ⟨ret_bo ?_, rfl⟩
    rw [HR.out]
    exact decide_eq_decide.2 (by omega)
set_option maxHeartbeats 4000000 in
set_option maxRecDepth 1000000 in
theorem may_any (s n : Int) (f : Bool) (since g now : Int) (r : Bool) (w : World) (hr : r = mayP s n f since g now) :
    Calls Try.prog 10 #[.int .i64 s, .int .i64 n, .bool f, .int .i64 since, .int .i64 g, .int .i64 now] w fun e w' => e = .returned (.bool r) ∧ w' = w := by
  obtain ⟨q, hq⟩ : ∃ q, q = decide (max s 0 < n) := ⟨_, rfl⟩
  have hr2 : r = (q && (decide (s < 1) || f || P.old since g now)) := by rw [hr, hq]; rfl
  have HR := Lib.hid hr2
  have HL := Lib.hid (left_any s n q w hq)
  have HO := Lib.hid (old_any since g now w)
  clear hr hr2 hq
  cases q with
  | false =>
    go_enter Try.func10, Try.ntmps10
    go_wp2_with fail
    (with_reducible refine HL.out.mono ?_)
    rintro e w1 ⟨rfl, hw1⟩
    subst w1
    go_wp2_with fail
    go_ret
    exact ⟨by rw [HR.out]; rfl, rfl⟩
  | true =>
    by_cases h1 : s < 1
    · have hd := decide_eq_true h1
      go_enter Try.func10, Try.ntmps10
      go_wp2_with fail
      (with_reducible refine HL.out.mono ?_)
      rintro e w1 ⟨rfl, hw1⟩
      subst w1
      go_wp2_with fail
      go_ret
      exact ⟨by rw [HR.out, hd]; rfl, rfl⟩
    · have hd := decide_eq_false h1
      cases f with
      | true =>
        go_enter Try.func10, Try.ntmps10
        go_wp2_with fail
        (with_reducible refine HL.out.mono ?_)
        rintro e w1 ⟨rfl, hw1⟩
        subst w1
        go_wp2_with fail
        go_ret
        exact ⟨by rw [HR.out, hd]; rfl, rfl⟩
      | false =>
        go_enter Try.func10, Try.ntmps10
        go_wp2_with fail
        (with_reducible refine HL.out.mono ?_)
        rintro e w1 ⟨rfl, hw1⟩
        subst w1
        go_wp2_with fail
        (with_reducible refine HO.out.mono ?_)
        rintro e w1 ⟨rfl, hw1⟩
        subst w1
        go_wp2_with fail
        go_ret
        exact ⟨by rw [HR.out, hd]; rfl, rfl⟩
theorem may_spec : MaySpec := fun s n f since g now r w h => (may_any s n f since g now r w h).mono fun e w1 ⟨h1, h2⟩ => ⟨h1, by rw [h2]; exact Below.refl _ _⟩

theorem later_1 (t g : Int) (w : World) : Calls Try.prog 18 #[.int .i64 t, .slice (some ⟨w.heap.size, 0, none⟩) 1 1] (w.alloc (.cells #[.int .i64 g] 3)) fun e w' => e = .returned (.int .i64 (P.later t [g])) ∧ w' = w.alloc (.cells #[.int .i64 g] 3) :=
  later_any t [g] (some ⟨w.heap.size, 0, none⟩) 1 (w.alloc (.cells #[.int .i64 g] 3)) (by simp) (rowI_one w _ g)
set_option maxHeartbeats 4000000 in
set_option maxRecDepth 1000000 in
theorem when_spec : WhenSpec := by
  intro s n since g t r w ht hr
  obtain ⟨q, hq⟩ : ∃ q, q = decide (max s 0 < n) := ⟨_, rfl⟩
  have HL := Lib.hid (left_any s n q w hq)
  by_cases h1 : s < 1
  · have hd := decide_eq_true h1
    have ht2 : t = 0 := by rw [ht]; unfold whenT; rw [if_neg (by omega)]
    have hr2 : r = false := by rw [hr]; unfold whenB; rw [decide_eq_false (by omega)]; rfl
    subst ht2 hr2
    clear ht hr hq
    go_enter Try.func9, Try.ntmps9
    go_wp2_with fail
    go_ret2
    exact ⟨rfl, Below.refl _ _⟩
  · have hd := decide_eq_false h1
    cases q with
    | false =>
      have h2 := of_decide_eq_false hq.symm
      have ht2 : t = 0 := by rw [ht]; unfold whenT; rw [if_neg (by omega)]
      have hr2 : r = false := by rw [hr]; unfold whenB; rw [decide_eq_false (show ¬ s < n by omega), Bool.and_false]
      subst ht2 hr2
      clear ht hr hq h2
      go_enter Try.func9, Try.ntmps9
      go_wp2_with fail
      (with_reducible refine HL.out.mono ?_)
      rintro e w1 ⟨rfl, hw1⟩
      subst w1
      go_wp2_with fail
      go_ret2
      exact ⟨rfl, Below.refl _ _⟩
    | true =>
      have h2 := of_decide_eq_true hq.symm
      have ht2 : t = P.later since [g] := by rw [ht]; unfold whenT; rw [if_pos (by omega)]
      have hr2 : r = true := by rw [hr]; unfold whenB; rw [decide_eq_true (show s < n by omega), decide_eq_true (by omega)]; rfl
      subst ht2 hr2
      clear ht hr hq h2
      have HX := Lib.hid (later_1 since g w)
      go_enter Try.func9, Try.ntmps9
      go_wp2_with fail
      (with_reducible refine HL.out.mono ?_)
      rintro e w1 ⟨rfl, hw1⟩
      subst w1
      go_wp2_with fail
      (with_reducible refine HX.out.mono ?_)
      rintro e w1 ⟨rfl, hw1⟩
      subst w1
      go_wp2_with fail
      go_ret2
      exact ⟨rfl, below1 _ _⟩
end Go.Proofs.Ytpncgcaepdkcnaa
