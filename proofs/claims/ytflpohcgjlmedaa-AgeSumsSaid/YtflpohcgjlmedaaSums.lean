/- AgeSums and AgeStays: the walks (written by wip/gen/mkage.py). -/
import Derived.Test.YtflpohcgjlmedaaLaws
set_option linter.unusedSimpArgs false
set_option linter.unusedVariables false
namespace Go.Proofs.Ytflpohcgjlmedaa
open Go.RowKit

set_option maxHeartbeats 8000000 in
set_option maxRecDepth 1000000 in
theorem sums_walk (t n m : Int) (w : World) : Calls Try.prog 5 #[.int .i64 t, .int .i64 n, .int .i64 m] w fun e w' => e = .returned (.bool true) ∧ Below w.heap.size w w' := by
  obtain ⟨B, hB⟩ : ∃ B, P.later t [n, m] = B := ⟨_, rfl⟩
  obtain ⟨S, hS⟩ : ∃ S, P.later n [m] = S := ⟨_, rfl⟩
  obtain ⟨T, hT⟩ : ∃ T, P.later t [n] = T := ⟨_, rfl⟩
  obtain ⟨G, hG⟩ : ∃ G, P.gone t B = G := ⟨_, rfl⟩
  obtain ⟨C, hC⟩ : ∃ C, P.clamp t = C := ⟨_, rfl⟩
  have h1 : P.later T [m] = B := by rw [← hT, ← hB]; exact P.sums1 t n m
  have h2 : P.later t [S] = B := by rw [← hS, ← hB]; exact P.sums2 t n m
  have h3 : P.later t [m, n] = B := by rw [← hB]; exact P.sums3 t n m
  have h4 : G = S ∨ B = 1073741824 := by rw [← hG, ← hB, ← hS]; exact P.sums4 t n m
  have h5 : G ≤ S := by rw [← hG, ← hB, ← hS]; exact P.sums5 t n m
  have h6 : P.gone B t = 0 := by rw [← hB]; exact P.sums6 t n m
  have h7 : P.later t [] = C := hC
  have HB := Lib.hid hB
  have HS := Lib.hid hS
  have HT := Lib.hid hT
  have HG := Lib.hid hG
  have HC := Lib.hid hC
  have H1 := Lib.hid h1
  have H2 := Lib.hid h2
  have H3 := Lib.hid h3
  have H6 := Lib.hid h6
  have H7 := Lib.hid h7
  clear hB hS hT hG hC h1 h2 h3 h6 h7
  have h4 : (G = S ∧ (G == S) = true) ∨ ((G == S) = false ∧ B = 1073741824) := by
    by_cases h : G = S
    · exact .inl ⟨h, by simpa using h⟩
    · exact .inr ⟨by simpa using h, by omega⟩
  rcases h4 with ⟨h, h8⟩ | ⟨h, h8⟩
  · clear h8
    subst h

    go_enter Try.func5, Try.ntmps5
    go_wp2_with fail
    refine (later_any t [n, m] (some ⟨(w.heap.size), 0, none⟩) 2 (w.alloc (.cells #[.int .i64 n, .int .i64 m] 3)) (by simp) (rowI_at _ _ _ _ _ (by simp) rfl)).mono ?_
    rw [HB.out]
    rintro e wz ⟨rfl, hwz⟩
    subst wz
    go_wp2_with fail
    refine (later_any n [m] (some ⟨(w.heap.size + 1), 0, none⟩) 1 ((w.alloc (.cells #[.int .i64 n, .int .i64 m] 3)).alloc (.cells #[.int .i64 m] 3)) (by simp) (rowI_at _ _ _ _ _ (by simp) rfl)).mono ?_
    rw [HS.out]
    rintro e wz ⟨rfl, hwz⟩
    subst wz
    go_wp2_with fail
    refine (later_any t [n] (some ⟨(w.heap.size + 2), 0, none⟩) 1 (((w.alloc (.cells #[.int .i64 n, .int .i64 m] 3)).alloc (.cells #[.int .i64 m] 3)).alloc (.cells #[.int .i64 n] 3)) (by simp) (rowI_at _ _ _ _ _ (by simp) rfl)).mono ?_
    rw [HT.out]
    rintro e wz ⟨rfl, hwz⟩
    subst wz
    go_wp2_with fail
    refine (later_any T [m] (some ⟨(w.heap.size + 3), 0, none⟩) 1 ((((w.alloc (.cells #[.int .i64 n, .int .i64 m] 3)).alloc (.cells #[.int .i64 m] 3)).alloc (.cells #[.int .i64 n] 3)).alloc (.cells #[.int .i64 m] 3)) (by simp) (rowI_at _ _ _ _ _ (by simp) rfl)).mono ?_
    rw [H1.out]
    rintro e wz ⟨rfl, hwz⟩
    subst wz
    go_wp2_with fail
    refine (later_any t [G] (some ⟨(w.heap.size + 4), 0, none⟩) 1 (((((w.alloc (.cells #[.int .i64 n, .int .i64 m] 3)).alloc (.cells #[.int .i64 m] 3)).alloc (.cells #[.int .i64 n] 3)).alloc (.cells #[.int .i64 m] 3)).alloc (.cells #[.int .i64 G] 3)) (by simp) (rowI_at _ _ _ _ _ (by simp) rfl)).mono ?_
    rw [H2.out]
    rintro e wz ⟨rfl, hwz⟩
    subst wz
    go_wp2_with fail
    refine (later_any t [m, n] (some ⟨(w.heap.size + 5), 0, none⟩) 2 ((((((w.alloc (.cells #[.int .i64 n, .int .i64 m] 3)).alloc (.cells #[.int .i64 m] 3)).alloc (.cells #[.int .i64 n] 3)).alloc (.cells #[.int .i64 m] 3)).alloc (.cells #[.int .i64 G] 3)).alloc (.cells #[.int .i64 m, .int .i64 n] 3)) (by simp) (rowI_at _ _ _ _ _ (by simp) rfl)).mono ?_
    rw [H3.out]
    rintro e wz ⟨rfl, hwz⟩
    subst wz
    go_wp2_with fail
    refine (gone_any t B ((((((w.alloc (.cells #[.int .i64 n, .int .i64 m] 3)).alloc (.cells #[.int .i64 m] 3)).alloc (.cells #[.int .i64 n] 3)).alloc (.cells #[.int .i64 m] 3)).alloc (.cells #[.int .i64 G] 3)).alloc (.cells #[.int .i64 m, .int .i64 n] 3))).mono ?_
    rw [HG.out]
    rintro e wz ⟨rfl, hwz⟩
    subst wz
    go_wp2_with fail
    refine (gone_any B t ((((((w.alloc (.cells #[.int .i64 n, .int .i64 m] 3)).alloc (.cells #[.int .i64 m] 3)).alloc (.cells #[.int .i64 n] 3)).alloc (.cells #[.int .i64 m] 3)).alloc (.cells #[.int .i64 G] 3)).alloc (.cells #[.int .i64 m, .int .i64 n] 3))).mono ?_
    rw [H6.out]
    rintro e wz ⟨rfl, hwz⟩
    subst wz
    go_wp2_with fail
    refine (later_any t [] none 0 ((((((w.alloc (.cells #[.int .i64 n, .int .i64 m] 3)).alloc (.cells #[.int .i64 m] 3)).alloc (.cells #[.int .i64 n] 3)).alloc (.cells #[.int .i64 m] 3)).alloc (.cells #[.int .i64 G] 3)).alloc (.cells #[.int .i64 m, .int .i64 n] 3)) (by simp) (fun h => absurd h (by simp))).mono ?_
    rw [H7.out]
    rintro e wz ⟨rfl, hwz⟩
    subst wz
    go_wp2_with fail
    refine (clamp_any t ((((((w.alloc (.cells #[.int .i64 n, .int .i64 m] 3)).alloc (.cells #[.int .i64 m] 3)).alloc (.cells #[.int .i64 n] 3)).alloc (.cells #[.int .i64 m] 3)).alloc (.cells #[.int .i64 G] 3)).alloc (.cells #[.int .i64 m, .int .i64 n] 3))).mono ?_
    rw [HC.out]
    rintro e wz ⟨rfl, hwz⟩
    subst wz
    go_wp2_with fail
    refine (wakes_any ((((((w.alloc (.cells #[.int .i64 n, .int .i64 m] 3)).alloc (.cells #[.int .i64 m] 3)).alloc (.cells #[.int .i64 n] 3)).alloc (.cells #[.int .i64 m] 3)).alloc (.cells #[.int .i64 G] 3)).alloc (.cells #[.int .i64 m, .int .i64 n] 3))).mono ?_
    rintro e w1 ⟨rfl, hb⟩
    have hbb : Below w.heap.size w w1 := (((((((Below.refl w.heap.size w).alloc (by simp) (.cells #[.int .i64 n, .int .i64 m] 3)).alloc (by simp) (.cells #[.int .i64 m] 3)).alloc (by simp <;> omega) (.cells #[.int .i64 n] 3)).alloc (by simp <;> omega) (.cells #[.int .i64 m] 3)).alloc (by simp <;> omega) (.cells #[.int .i64 G] 3)).alloc (by simp <;> omega) (.cells #[.int .i64 m, .int .i64 n] 3)).trans (hb.mono (by simp <;> omega))
    clear hb
    go_wp2_with fail
    go_ret
    exact ⟨rfl, hbb⟩
  · subst h8
    go_enter Try.func5, Try.ntmps5
    go_wp2_with fail
    refine (later_any t [n, m] (some ⟨(w.heap.size), 0, none⟩) 2 (w.alloc (.cells #[.int .i64 n, .int .i64 m] 3)) (by simp) (rowI_at _ _ _ _ _ (by simp) rfl)).mono ?_
    rw [HB.out]
    rintro e wz ⟨rfl, hwz⟩
    subst wz
    go_wp2_with fail
    refine (later_any n [m] (some ⟨(w.heap.size + 1), 0, none⟩) 1 ((w.alloc (.cells #[.int .i64 n, .int .i64 m] 3)).alloc (.cells #[.int .i64 m] 3)) (by simp) (rowI_at _ _ _ _ _ (by simp) rfl)).mono ?_
    rw [HS.out]
    rintro e wz ⟨rfl, hwz⟩
    subst wz
    go_wp2_with fail
    refine (later_any t [n] (some ⟨(w.heap.size + 2), 0, none⟩) 1 (((w.alloc (.cells #[.int .i64 n, .int .i64 m] 3)).alloc (.cells #[.int .i64 m] 3)).alloc (.cells #[.int .i64 n] 3)) (by simp) (rowI_at _ _ _ _ _ (by simp) rfl)).mono ?_
    rw [HT.out]
    rintro e wz ⟨rfl, hwz⟩
    subst wz
    go_wp2_with fail
    refine (later_any T [m] (some ⟨(w.heap.size + 3), 0, none⟩) 1 ((((w.alloc (.cells #[.int .i64 n, .int .i64 m] 3)).alloc (.cells #[.int .i64 m] 3)).alloc (.cells #[.int .i64 n] 3)).alloc (.cells #[.int .i64 m] 3)) (by simp) (rowI_at _ _ _ _ _ (by simp) rfl)).mono ?_
    rw [H1.out]
    rintro e wz ⟨rfl, hwz⟩
    subst wz
    go_wp2_with fail
    refine (later_any t [S] (some ⟨(w.heap.size + 4), 0, none⟩) 1 (((((w.alloc (.cells #[.int .i64 n, .int .i64 m] 3)).alloc (.cells #[.int .i64 m] 3)).alloc (.cells #[.int .i64 n] 3)).alloc (.cells #[.int .i64 m] 3)).alloc (.cells #[.int .i64 S] 3)) (by simp) (rowI_at _ _ _ _ _ (by simp) rfl)).mono ?_
    rw [H2.out]
    rintro e wz ⟨rfl, hwz⟩
    subst wz
    go_wp2_with fail
    refine (later_any t [m, n] (some ⟨(w.heap.size + 5), 0, none⟩) 2 ((((((w.alloc (.cells #[.int .i64 n, .int .i64 m] 3)).alloc (.cells #[.int .i64 m] 3)).alloc (.cells #[.int .i64 n] 3)).alloc (.cells #[.int .i64 m] 3)).alloc (.cells #[.int .i64 S] 3)).alloc (.cells #[.int .i64 m, .int .i64 n] 3)) (by simp) (rowI_at _ _ _ _ _ (by simp) rfl)).mono ?_
    rw [H3.out]
    rintro e wz ⟨rfl, hwz⟩
    subst wz
    go_wp2_with fail
    refine (gone_any t 1073741824 ((((((w.alloc (.cells #[.int .i64 n, .int .i64 m] 3)).alloc (.cells #[.int .i64 m] 3)).alloc (.cells #[.int .i64 n] 3)).alloc (.cells #[.int .i64 m] 3)).alloc (.cells #[.int .i64 S] 3)).alloc (.cells #[.int .i64 m, .int .i64 n] 3))).mono ?_
    rw [HG.out]
    rintro e wz ⟨rfl, hwz⟩
    subst wz
    go_wp2_with fail
    refine (gone_any 1073741824 t ((((((w.alloc (.cells #[.int .i64 n, .int .i64 m] 3)).alloc (.cells #[.int .i64 m] 3)).alloc (.cells #[.int .i64 n] 3)).alloc (.cells #[.int .i64 m] 3)).alloc (.cells #[.int .i64 S] 3)).alloc (.cells #[.int .i64 m, .int .i64 n] 3))).mono ?_
    rw [H6.out]
    rintro e wz ⟨rfl, hwz⟩
    subst wz
    go_wp2_with fail
    refine (later_any t [] none 0 ((((((w.alloc (.cells #[.int .i64 n, .int .i64 m] 3)).alloc (.cells #[.int .i64 m] 3)).alloc (.cells #[.int .i64 n] 3)).alloc (.cells #[.int .i64 m] 3)).alloc (.cells #[.int .i64 S] 3)).alloc (.cells #[.int .i64 m, .int .i64 n] 3)) (by simp) (fun h => absurd h (by simp))).mono ?_
    rw [H7.out]
    rintro e wz ⟨rfl, hwz⟩
    subst wz
    go_wp2_with fail
    refine (clamp_any t ((((((w.alloc (.cells #[.int .i64 n, .int .i64 m] 3)).alloc (.cells #[.int .i64 m] 3)).alloc (.cells #[.int .i64 n] 3)).alloc (.cells #[.int .i64 m] 3)).alloc (.cells #[.int .i64 S] 3)).alloc (.cells #[.int .i64 m, .int .i64 n] 3))).mono ?_
    rw [HC.out]
    rintro e wz ⟨rfl, hwz⟩
    subst wz
    go_wp2_with fail
    refine (wakes_any ((((((w.alloc (.cells #[.int .i64 n, .int .i64 m] 3)).alloc (.cells #[.int .i64 m] 3)).alloc (.cells #[.int .i64 n] 3)).alloc (.cells #[.int .i64 m] 3)).alloc (.cells #[.int .i64 S] 3)).alloc (.cells #[.int .i64 m, .int .i64 n] 3))).mono ?_
    rintro e w1 ⟨rfl, hb⟩
    have hbb : Below w.heap.size w w1 := (((((((Below.refl w.heap.size w).alloc (by simp) (.cells #[.int .i64 n, .int .i64 m] 3)).alloc (by simp) (.cells #[.int .i64 m] 3)).alloc (by simp <;> omega) (.cells #[.int .i64 n] 3)).alloc (by simp <;> omega) (.cells #[.int .i64 m] 3)).alloc (by simp <;> omega) (.cells #[.int .i64 S] 3)).alloc (by simp <;> omega) (.cells #[.int .i64 m, .int .i64 n] 3)).trans (hb.mono (by simp <;> omega))
    clear hb
    go_wp2_with fail
    go_ret
    exact ⟨rfl, hbb⟩
end Go.Proofs.Ytflpohcgjlmedaa
