/- What the document says of a row, and the program does; whether rows are too long. -/
import Derived.Test.YtooophfmhohnmaaEnds
import Derived.Test.YtooophfmhohnmaaLook
import Derived.Test.YtooophfmhohnmaaTurn
import Derived.Test.YtooophfmhohnmaaDrop
import Derived.Test.YtooophfmhohnmaaRDrop
set_option linter.unusedSimpArgs false
set_option linter.unusedVariables false
namespace Go.Proofs.Ytooophfmhohnmaa
open Go.RowKit

set_option maxHeartbeats 4000000 in
set_option maxRecDepth 1000000 in
theorem great_any (rs : List (Option Addr × Nat × Nat)) (g : Nat) (w : World) (h : ∀ j r, rs[j]? = some r → w.cell? ⟨g, j, none⟩ = some (.slice r.1 r.2.1 r.2.2)) (hl : rs.length ≤ 100) (hm : ∀ r ∈ rs, r.2.1 ≤ maxLen) :
    Calls Try.prog 8 #[.slice (some ⟨g, 0, none⟩) rs.length rs.length] w fun e w' => e = .returned (.bool (rs.any fun r => decide (200 < r.2.1))) ∧ w' = w := by
  have H := Lib.hid h
  have HM := Lib.hid hm
  clear h hm
  go_enter Try.func8, Try.ntmps8
  go_wp2_with fail
  go_loopw [2, 3] (fun u2 u3 wr => ∃ k : Nat, u3 = .int .i64 k ∧ k ≤ rs.length ∧ wr = w ∧ u2 = .bool false ∧ Hid ((rs.drop k).any (fun r => decide (200 < r.2.1)) = rs.any fun r => decide (200 < r.2.1))) (fun _ u _ => rs.length - (intOf u).toNat)
  case atStart => exact ⟨0, rfl, by omega, rfl, rfl, Lib.hid rfl⟩
  case round =>
    obtain ⟨k, rfl, hk, rfl, rfl, hF⟩ := hrel
    have HF := Lib.hid hF.out
    clear hF
    by_cases hlt : k < rs.length
    · obtain ⟨r, hr⟩ : ∃ r, rs[k]? = some r := ⟨_, List.getElem?_eq_getElem hlt⟩
      have hc := H.out k r hr
      have hm := HM.out r (List.mem_of_getElem? hr)
      have HX := Lib.hid (show rs.drop k = r :: rs.drop (k + 1) by
        obtain ⟨h1, h2⟩ := List.getElem?_eq_some_iff.1 hr
        rw [List.drop_eq_getElem_cons h1, h2])
      obtain ⟨ra, rn, rc⟩ := r
      simp only at hc hm
      unfold maxLen at hm
      clear hr
      by_cases h2 : 200 < rn
      · have HR := Lib.hid (show (rs.any fun r => decide (200 < r.2.1)) = true by rw [← HF.out, HX.out, List.any_cons]; simp [h2])
        go_wp2_with fail
        go_ret
        exact ⟨by rw [HR.out]; rfl, rfl⟩
      · have HR := Lib.hid (show (rs.drop (k + 1)).any (fun r => decide (200 < r.2.1)) = rs.any fun r => decide (200 < r.2.1) by rw [← HF.out, HX.out, List.any_cons]; simp [h2])
        go_wp2_with fail
        go_roundw
        case rel => exact ⟨k + 1, by go_num, by omega, by trivial, by trivial, HR⟩
        case measure => simp [intOf]; omega
    · obtain rfl : k = rs.length := by omega
      have h := HF.out
      rw [List.drop_length, List.any_nil] at h
      have H2 := Lib.hid h
      clear h
      go_wp2_with fail
      go_ret
      exact ⟨by rw [← H2.out]; rfl, rfl⟩

set_option maxHeartbeats 8000000 in
set_option maxRecDepth 1000000 in
theorem wakes_any (w : World) : Calls Try.prog 9 #[] w fun e w' => e = .returned (.bool true) ∧ Below w.heap.size w w' := by
  go_enter Try.func9, Try.ntmps9
  go_wp2_with fail
  refine (push_any [1, 2] [3] [1, 2, 3] rfl (some ⟨w.heap.size, 0, none⟩) (some ⟨w.heap.size + 1, 0, none⟩) 2 1 ((w.alloc (.cells #[.int .i64 1, .int .i64 2] 3)).alloc (.cells #[.int .i64 3] 3)) (by simp) (by simp)
    ((rowC_at w _ [1, 2] _ _ 2 rfl rfl rfl (by simp)).below ((Below.refl _ _).alloc (Nat.le_refl _) _)) (rowC_at _ _ [3] _ _ 1 (by simp) rfl rfl (by simp))).mono ?_
  rintro e w1 ⟨a1, c1, rfl, hM1, hB⟩
  have HB1 := Lib.hid ((((Below.refl w.heap.size w).alloc (Nat.le_refl _) (.cells #[.int .i64 1, .int .i64 2] 3)).alloc (by simp) (.cells #[.int .i64 3] 3)).trans (hB.mono (by simp; omega)))
  have HM1 := Lib.hid hM1.row
  clear hM1 hB
  go_wp2_with fail
  refine (front_any 1 [2, 3] [1, 2, 3] true (.inl ⟨rfl, rfl⟩) a1 c1 w1 (by simp) HM1.out).mono ?_
  rintro e w2 ⟨a2, c2, rfl, hM2, hB⟩
  have HB2 := Lib.hid (HB1.out.trans (hB.mono HB1.out.size))
  have HM12 := Lib.hid (HM1.out.below hB)
  have HM2 := Lib.hid hM2.row
  clear hM2 hB
  go_wp2_with fail
  refine (drop_any [1, 2, 1] [1, 9] [2, 1] 1 (by decide) rfl (some ⟨w2.heap.size, 0, none⟩) (some ⟨w2.heap.size + 1, 0, none⟩) 3 2 ((w2.alloc (.cells #[.int .i64 1, .int .i64 2, .int .i64 1] 3)).alloc (.cells #[.int .i64 1, .int .i64 9] 3)) (by simp) (by simp)
    (by intro x hx; simp at hx; unfold I64; omega) (by intro x hx; simp at hx; unfold I64; omega)
    ((rowC_at w2 _ [1, 2, 1] _ _ 3 rfl rfl rfl (by simp)).below ((Below.refl _ _).alloc (Nat.le_refl _) _)) (rowC_at _ _ [1, 9] _ _ 2 (by simp) rfl rfl (by simp))).mono ?_
  rintro e w3 ⟨a3, c3, rfl, hM3, hB⟩
  have HBa := Lib.hid ((((Below.refl w2.heap.size w2).alloc (Nat.le_refl _) (.cells #[.int .i64 1, .int .i64 2, .int .i64 1] 3)).alloc (by simp) (.cells #[.int .i64 1, .int .i64 9] 3)).trans (hB.mono (by simp; omega)))
  have HB3 := Lib.hid (HB2.out.trans (HBa.out.mono HB2.out.size))
  have HM13 := Lib.hid (HM12.out.below HBa.out)
  have HM23 := Lib.hid (HM2.out.below HBa.out)
  have HM3 := Lib.hid hM3.row
  obtain ⟨b1, o1, rfl, hb1, hat1⟩ := HM13.out.2.2.2 (by simp)
  have hc13 := hat1 2 3 rfl
  clear hM3 hB hat1
  go_wp2_with fail
  refine (same_any [2, 3] [2, 3] a2 (some ⟨w3.heap.size, 0, none⟩) c2 2 (w3.alloc (.cells #[.int .i64 2, .int .i64 3] 3)) (by simp) (by simp) (HM23.out.below ((Below.refl _ _).alloc (Nat.le_refl _) _)) (rowC_at _ _ [2, 3] _ _ 2 rfl rfl rfl (by simp))).mono ?_
  rw [decide_eq_true (rfl : ([2, 3] : List Int) = [2, 3])]
  rintro e w4 ⟨rfl, hB⟩
  have HBb := Lib.hid (((Below.refl w3.heap.size w3).alloc (Nat.le_refl _) (.cells #[.int .i64 2, .int .i64 3] 3)).trans (hB.mono (by simp)))
  have HB4 := Lib.hid (HB3.out.trans (HBb.out.mono HB3.out.size))
  have HM34 := Lib.hid (HM3.out.below HBb.out)
  clear hB
  go_wp2_with fail
  refine (same_any [2, 1] [2, 1] a3 (some ⟨w4.heap.size, 0, none⟩) c3 2 (w4.alloc (.cells #[.int .i64 2, .int .i64 1] 3)) (by simp) (by simp) (HM34.out.below ((Below.refl _ _).alloc (Nat.le_refl _) _)) (rowC_at _ _ [2, 1] _ _ 2 rfl rfl rfl (by simp))).mono ?_
  rw [decide_eq_true (rfl : ([2, 1] : List Int) = [2, 1])]
  rintro e w5 ⟨rfl, hB⟩
  have HBc := Lib.hid (((Below.refl w4.heap.size w4).alloc (Nat.le_refl _) (.cells #[.int .i64 2, .int .i64 1] 3)).trans (hB.mono (by simp)))
  have HB5 := Lib.hid (HB4.out.trans (HBc.out.mono HB4.out.size))
  clear hB
  go_wp2_with fail
  go_ret
  exact ⟨rfl, HB5.out⟩
end Go.Proofs.Ytooophfmhohnmaa
