/- AgeSums, AgeGone, AgeStays: the walks. -/
import Derived.Test.YtflpohcgjlmedaaWakes
import Derived.Test.YtflpohcgjlmedaaPlaws
set_option linter.unusedSimpArgs false
set_option linter.unusedVariables false
namespace Go.Proofs.Ytflpohcgjlmedaa
open Go.RowKit

set_option maxHeartbeats 4000000 in
set_option maxRecDepth 1000000 in
theorem gone_walk (s n now : Int) (w : World) : Calls Try.prog 7 #[.int .i64 s, .int .i64 n, .int .i64 now] w fun e w' => e = .returned (.bool true) ∧ Below w.heap.size w w' := by
  by_cases h : 1073741824 ≤ P.clamp now
  · have HO := Lib.hid (P.gone1 s n now h)
    go_enter Try.func7, Try.ntmps7
    go_wp2_with fail
    refine (clamp_any now _).mono ?_
    rintro e wz ⟨rfl, hwz⟩
    subst wz
    go_wp2_with fail
    refine (old_any s n now _).mono ?_
    rw [HO.out]
    rintro e wz ⟨rfl, hwz⟩
    subst wz
    go_wp2_with fail
    refine (wakes_any _).mono ?_
    rintro e w1 ⟨rfl, hb⟩
    go_wp2_with fail
    go_ret
    exact ⟨rfl, hb⟩
  · have HO := Lib.hid (P.gone2 s n now h)
    have H3 := Lib.hid (P.gone3 s now)
    cases h1 : decide (P.clamp s ≤ P.clamp now) with
    | false =>
      have hd1 : ¬ P.clamp s ≤ P.clamp now := by simpa using h1
      have HO2 := Lib.hid (show P.old s n now = false by rw [HO.out, h1]; rfl)
      have h3 := H3.out
      clear h1
      go_enter Try.func7, Try.ntmps7
      go_wp2_with fail
      refine (clamp_any now _).mono ?_
      rintro e wz ⟨rfl, hwz⟩
      subst wz
      go_wp2_with fail
      refine (clamp_any now _).mono ?_
      rintro e wz ⟨rfl, hwz⟩
      subst wz
      go_wp2_with fail
      refine (clamp_any s _).mono ?_
      rintro e wz ⟨rfl, hwz⟩
      subst wz
      go_wp2_with fail
      refine (old_any s n now _).mono ?_
      rw [HO2.out]
      rintro e wz ⟨rfl, hwz⟩
      subst wz
      go_wp2_with fail
      refine (gone_any s now _).mono ?_
      rintro e wz ⟨rfl, hwz⟩
      subst wz
      go_wp2_with fail
      refine (clamp_any now _).mono ?_
      rintro e wz ⟨rfl, hwz⟩
      subst wz
      go_wp2_with fail
      refine (wakes_any _).mono ?_
      rintro e w1 ⟨rfl, hb⟩
      go_wp2_with fail
      go_ret
      exact ⟨rfl, hb⟩
    | true =>
      have hd1 : P.clamp s ≤ P.clamp now := by simpa using h1
      have HO2 := Lib.hid (show P.old s n now = decide (P.clamp n ≤ P.gone s now) by rw [HO.out, h1]; simp)
      have h3 := H3.out
      clear h1
      go_enter Try.func7, Try.ntmps7
      go_wp2_with fail
      refine (clamp_any now _).mono ?_
      rintro e wz ⟨rfl, hwz⟩
      subst wz
      go_wp2_with fail
      refine (clamp_any now _).mono ?_
      rintro e wz ⟨rfl, hwz⟩
      subst wz
      go_wp2_with fail
      refine (clamp_any s _).mono ?_
      rintro e wz ⟨rfl, hwz⟩
      subst wz
      go_wp2_with fail
      refine (gone_any s now _).mono ?_
      rintro e wz ⟨rfl, hwz⟩
      subst wz
      go_wp2_with fail
      refine (clamp_any n _).mono ?_
      rintro e wz ⟨rfl, hwz⟩
      subst wz
      go_wp2_with fail
      refine (old_any s n now _).mono ?_
      rw [HO2.out]
      rintro e wz ⟨rfl, hwz⟩
      subst wz
      go_wp2_with fail
      refine (gone_any s now _).mono ?_
      rintro e wz ⟨rfl, hwz⟩
      subst wz
      go_wp2_with fail
      refine (clamp_any now _).mono ?_
      rintro e wz ⟨rfl, hwz⟩
      subst wz
      go_wp2_with fail
      refine (wakes_any _).mono ?_
      rintro e w1 ⟨rfl, hb⟩
      go_wp2_with fail
      go_ret
      exact ⟨rfl, hb⟩
end Go.Proofs.Ytflpohcgjlmedaa
