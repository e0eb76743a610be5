/- DuctNumbers: the walk. -/
import Derived.Test.YtomiajgedcpjiaaWakes
import Derived.Test.YtomiajgedcpjiaaOwn
set_option linter.unusedSimpArgs false
set_option linter.unusedVariables false
namespace Go.Proofs.Ytomiajgedcpjiaa
open Go.RowKit Go.Proofs.Ytomiajgedcpjiaa.Kind

set_option maxHeartbeats 4000000 in
set_option maxRecDepth 1000000 in
theorem ductnum_great (p i q j n f : Int) (w : World) (h : 1125899906842624 < p ∨ (p ≤ 1125899906842624 ∧ 1125899906842624 < q) ∨ (p ≤ 1125899906842624 ∧ q ≤ 1125899906842624 ∧ 1152921504606846976 < n)) :
    Calls Try.prog 4 #[.int .i64 p, .int .i64 i, .int .i64 q, .int .i64 j, .int .i64 n, .int .i64 f] w fun e w' => e = .returned (.bool true) ∧ Below w.heap.size w w' := by
  have HW := Lib.hid (wakes_any w)
  rcases h with h1 | ⟨h1, h2⟩ | ⟨h1, h2, h3⟩
  all_goals
    go_enter Try.func4, Try.ntmps4
    go_wp2_with fail
    with_reducible refine HW.out.mono ?_
    rintro e w1 ⟨rfl, hB⟩
    go_wp2_with fail
    go_ret
    exact ⟨rfl, hB⟩

set_option maxHeartbeats 16000000 in
set_option maxRecDepth 1000000 in
theorem ductnum_small (p i q j n f : Int) (w : World) (hp : p ≤ 1125899906842624) (hq : q ≤ 1125899906842624) (hn : n ≤ 1152921504606846976)
    (A B x y z : Int) (hA : ofB p i = A) (hB : ofB q j = B) (hx : WhoseR n x y) (hxy : 0 ≤ n → ofB x y = n ∧ x ≤ 288230376151711744) (hz : CapR f z) (hAw : 0 ≤ A → WhoseR A p i ∧ A ≤ 9223372036854775807)
    (hc : A = -1 ∨ (0 ≤ A ∧ B = -1) ∨ (0 ≤ A ∧ 0 ≤ B ∧ (A == B) = true ∧ (p == q) = true ∧ (i == j) = true) ∨ (0 ≤ A ∧ 0 ≤ B ∧ (A == B) = false ∧ (p == q) = false) ∨ (0 ≤ A ∧ 0 ≤ B ∧ (A == B) = false ∧ (p == q) = true ∧ (i == j) = false)) :
    Calls Try.prog 4 #[.int .i64 p, .int .i64 i, .int .i64 q, .int .i64 j, .int .i64 n, .int .i64 f] w fun e w' => e = .returned (.bool true) ∧ Below w.heap.size w w' := by
  have HO1 := Lib.hid (of_any p i w (by omega))
  have HO2 := Lib.hid (of_any q j w (by omega))
  have HO3 := Lib.hid (rof_any p i w (by omega))
  rw [hA] at HO1 HO3
  rw [hB] at HO2
  have HWa := Lib.hid (fun h => whose_any A p i w (hAw h).1 (hAw h).2)
  have HWn := Lib.hid (whose_any n x y w hx (by omega))
  have HWr := Lib.hid (rwhose_any n x y w hx (by omega))
  have HXY := Lib.hid hxy
  have HOw := Lib.hid (own_any f z hz)
  have HOr := Lib.hid (rown_any f z hz)
  clear hA hB hx hxy hz hAw
  have hn0 : n < 0 ∨ 0 ≤ n := by omega
  rcases hc with hc | ⟨hc, hc2⟩ | ⟨hc, hc2, hc3, hc4, hc5⟩ | ⟨hc, hc2, hc3, hc4⟩ | ⟨hc, hc2, hc3, hc4, hc5⟩
  all_goals
    go_enter Try.func4, Try.ntmps4
    go_wp2_with fail
    with_reducible refine HO1.out.mono ?_
    rintro e w1 ⟨rfl, hw⟩
    subst w1
    go_wp2_with fail
    with_reducible refine HO2.out.mono ?_
    rintro e w1 ⟨rfl, hw⟩
    subst w1
    go_wp2_with fail
    with_reducible refine HO3.out.mono ?_
    rintro e w1 ⟨rfl, hw⟩
    subst w1
    go_wp2_with fail
  all_goals
    try (with_reducible refine (HWa.out hc).mono ?_
         rintro e w1 ⟨rfl, hw⟩
         subst w1
         go_wp2_with fail)
    with_reducible refine HWn.out.mono ?_
    rintro e w1 ⟨rfl, hw⟩
    subst w1
    go_wp2_with fail
    with_reducible refine HWr.out.mono ?_
    rintro e w1 ⟨rfl, hw⟩
    subst w1
    rcases hn0 with hn0 | hn0
    · go_wp2_with fail
      with_reducible refine (HOw.out w).mono ?_
      rintro e w2 ⟨a2, c2, rfl, hR, hB⟩
      have HB2 := Lib.hid hB
      have HR2 := Lib.hid hR
      clear hR hB
      go_wp2_with fail
      with_reducible refine (HOr.out w2).mono ?_
      rintro e w3 ⟨a3, c3, rfl, hR, hB⟩
      have HS := Lib.hid (rsameall_eq (dvs z) (by simp [dvs]) a2 a3 c2 c3 w3 (by simp [dvs]) (HR2.out.below hB) hR)
      rw [show (dvs z).length = 5 from rfl] at HS
      have HB3 := Lib.hid (HB2.out.trans (hB.mono HB2.out.size))
      clear hR hB
      go_wp2_with fail
      with_reducible refine HS.out.mono ?_
      rintro e w4 ⟨rfl, hB⟩
      have HB4 := Lib.hid (HB3.out.trans (hB.mono HB3.out.size))
      clear hB
      go_wp2_with fail
      with_reducible refine (wakes_any w4).mono ?_
      rintro e w5 ⟨rfl, hB⟩
      have HB5 := Lib.hid (HB4.out.trans (hB.mono HB4.out.size))
      clear hB
      go_wp2_with fail
      go_ret
      exact ⟨rfl, HB5.out⟩
    · have HOx := Lib.hid (of_any x y w (HXY.out hn0).2)
      rw [(HXY.out hn0).1] at HOx
      go_wp2_with fail
      with_reducible refine HOx.out.mono ?_
      rintro e w1 ⟨rfl, hw⟩
      subst w1
      go_wp2_with fail
      with_reducible refine (HOw.out w).mono ?_
      rintro e w2 ⟨a2, c2, rfl, hR, hB⟩
      have HB2 := Lib.hid hB
      have HR2 := Lib.hid hR
      clear hR hB
      go_wp2_with fail
      with_reducible refine (HOr.out w2).mono ?_
      rintro e w3 ⟨a3, c3, rfl, hR, hB⟩
      have HS := Lib.hid (rsameall_eq (dvs z) (by simp [dvs]) a2 a3 c2 c3 w3 (by simp [dvs]) (HR2.out.below hB) hR)
      rw [show (dvs z).length = 5 from rfl] at HS
      have HB3 := Lib.hid (HB2.out.trans (hB.mono HB2.out.size))
      clear hR hB
      go_wp2_with fail
      with_reducible refine HS.out.mono ?_
      rintro e w4 ⟨rfl, hB⟩
      have HB4 := Lib.hid (HB3.out.trans (hB.mono HB3.out.size))
      clear hB
      go_wp2_with fail
      with_reducible refine (wakes_any w4).mono ?_
      rintro e w5 ⟨rfl, hB⟩
      have HB5 := Lib.hid (HB4.out.trans (hB.mono HB4.out.size))
      clear hB
      go_wp2_with fail
      go_ret
      exact ⟨rfl, HB5.out⟩

theorem ductnum_walk (p i q j n f : Int) (w : World) (h0 : I64 p) (h1 : I64 i) (h2 : I64 q) (h3 : I64 j) (h4 : I64 n) (h5 : I64 f) :
    Calls Try.prog 4 #[.int .i64 p, .int .i64 i, .int .i64 q, .int .i64 j, .int .i64 n, .int .i64 f] w fun e w' => e = .returned (.bool true) ∧ Below w.heap.size w w' := by
  by_cases hg : 1125899906842624 < p ∨ (p ≤ 1125899906842624 ∧ 1125899906842624 < q) ∨ (p ≤ 1125899906842624 ∧ q ≤ 1125899906842624 ∧ 1152921504606846976 < n)
  · exact ductnum_great p i q j n f w hg
  · have hp : p ≤ 1125899906842624 := by omega
    have hq : q ≤ 1125899906842624 := by omega
    have hn : n ≤ 1152921504606846976 := by omega
    obtain ⟨x, y, hx⟩ : ∃ x y, WhoseR n x y := by
      by_cases h : n < 0
      · exact ⟨-1, -1, .inl ⟨h, rfl, rfl⟩⟩
      · exact ⟨n / 5, n % 5, .inr ⟨by omega, rfl, rfl⟩⟩
    obtain ⟨z, hz⟩ : ∃ z, CapR f z := by
      by_cases h : f < 0
      · exact ⟨0, .inl ⟨h, rfl⟩⟩
      · by_cases h2 : f ≤ 64
        · exact ⟨f, .inr (.inr ⟨by omega, h2, rfl⟩)⟩
        · exact ⟨64, .inr (.inl ⟨by omega, by omega, rfl⟩)⟩
    refine ductnum_small p i q j n f w hp hq hn _ _ x y z rfl rfl hx ?_ hz ?_ ?_
    · intro h
      rcases hx with ⟨h', _⟩ | ⟨_, rfl, rfl⟩
      · omega
      · refine ⟨?_, by omega⟩
        unfold ofB
        rw [if_neg (by omega)]
        omega
    · intro h
      unfold ofB at h ⊢
      split at h
      · omega
      · rename_i hh
        rw [if_neg hh]
        refine ⟨.inr ⟨h, by omega, by omega⟩, by omega⟩
    · unfold ofB
      simp only [beq_iff_eq, beq_eq_false_iff_ne, ne_eq]
      split <;> split <;> omega
end Go.Proofs.Ytomiajgedcpjiaa
