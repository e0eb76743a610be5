/- AgeStays: the walk (written by wip/gen/mkage.py). -/
import Derived.Test.YtflpohcgjlmedaaLaws
set_option linter.unusedSimpArgs false
set_option linter.unusedVariables false
namespace Go.Proofs.Ytflpohcgjlmedaa
open Go.RowKit

set_option maxHeartbeats 8000000 in
set_option maxRecDepth 1000000 in
theorem stays_walk (s n now m : Int) (w : World) : Calls Try.prog 4 #[.int .i64 s, .int .i64 n, .int .i64 now, .int .i64 m] w fun e w' => e = .returned (.bool true) ∧ Below w.heap.size w w' := by
  obtain ⟨L, hL⟩ : ∃ L, P.later now [m] = L := ⟨_, rfl⟩
  obtain ⟨N, hN⟩ : ∃ N, P.later n [m] = N := ⟨_, rfl⟩
  obtain ⟨S, hS⟩ : ∃ S, P.later s [m] = S := ⟨_, rfl⟩
  obtain ⟨C, hC⟩ : ∃ C, P.clamp now = C := ⟨_, rfl⟩
  have h1 : P.old s n now = true → P.old s n L = true := by rw [← hL]; exact P.stays1 s n now m
  have h2 : P.old s N now = true → P.old s n now = true := by rw [← hN]; exact P.stays2 s n now m
  have h3 : P.old S n now = true → P.old s n now = true := by rw [← hS]; exact P.stays3 s n now m
  have h5 : C ≤ L := by rw [← hL, ← hC]; exact P.stays5 now m
  have HL := Lib.hid hL
  have HN := Lib.hid hN
  have HS := Lib.hid hS
  have HC := Lib.hid hC
  have H4 := Lib.hid (P.stays4 s)
  clear hL hN hS hC
  cases hA : P.old s n now <;> cases hX : P.old s n L <;> cases hY : P.old s N now <;> cases hZ : P.old S n now <;> (try exact Bool.noConfusion ((h2 hY).symm.trans hA)) <;> (try exact Bool.noConfusion ((h3 hZ).symm.trans hA)) <;> (try exact Bool.noConfusion ((h1 hA).symm.trans hX))
  · have HA := Lib.hid hA
    have HX := Lib.hid hX
    have HY := Lib.hid hY
    have HZ := Lib.hid hZ
    clear hA hX hY hZ h1 h2 h3
    go_enter Try.func4, Try.ntmps4
    go_wp2_with fail
    refine (later_any now [m] (some ⟨(w.heap.size), 0, none⟩) 1 (w.alloc (.cells #[.int .i64 m] 3)) (by simp) (rowI_at _ _ _ _ _ (by simp) rfl)).mono ?_
    rw [HL.out]
    rintro e wz ⟨rfl, hwz⟩
    subst wz
    go_wp2_with fail
    refine (old_any s n now (w.alloc (.cells #[.int .i64 m] 3))).mono ?_
    rw [HA.out]
    rintro e wz ⟨rfl, hwz⟩
    subst wz
    go_wp2_with fail
    refine (later_any n [m] (some ⟨(w.heap.size + 1), 0, none⟩) 1 ((w.alloc (.cells #[.int .i64 m] 3)).alloc (.cells #[.int .i64 m] 3)) (by simp) (rowI_at _ _ _ _ _ (by simp) rfl)).mono ?_
    rw [HN.out]
    rintro e wz ⟨rfl, hwz⟩
    subst wz
    go_wp2_with fail
    refine (old_any s N now ((w.alloc (.cells #[.int .i64 m] 3)).alloc (.cells #[.int .i64 m] 3))).mono ?_
    rw [HY.out]
    rintro e wz ⟨rfl, hwz⟩
    subst wz
    go_wp2_with fail
    refine (later_any s [m] (some ⟨(w.heap.size + 2), 0, none⟩) 1 (((w.alloc (.cells #[.int .i64 m] 3)).alloc (.cells #[.int .i64 m] 3)).alloc (.cells #[.int .i64 m] 3)) (by simp) (rowI_at _ _ _ _ _ (by simp) rfl)).mono ?_
    rw [HS.out]
    rintro e wz ⟨rfl, hwz⟩
    subst wz
    go_wp2_with fail
    refine (old_any S n now (((w.alloc (.cells #[.int .i64 m] 3)).alloc (.cells #[.int .i64 m] 3)).alloc (.cells #[.int .i64 m] 3))).mono ?_
    rw [HZ.out]
    rintro e wz ⟨rfl, hwz⟩
    subst wz
    go_wp2_with fail
    refine (old_any s 0 s (((w.alloc (.cells #[.int .i64 m] 3)).alloc (.cells #[.int .i64 m] 3)).alloc (.cells #[.int .i64 m] 3))).mono ?_
    rw [H4.out]
    rintro e wz ⟨rfl, hwz⟩
    subst wz
    go_wp2_with fail
    refine (clamp_any now (((w.alloc (.cells #[.int .i64 m] 3)).alloc (.cells #[.int .i64 m] 3)).alloc (.cells #[.int .i64 m] 3))).mono ?_
    rw [HC.out]
    rintro e wz ⟨rfl, hwz⟩
    subst wz
    go_wp2_with fail
    refine (wakes_any (((w.alloc (.cells #[.int .i64 m] 3)).alloc (.cells #[.int .i64 m] 3)).alloc (.cells #[.int .i64 m] 3))).mono ?_
    rintro e w1 ⟨rfl, hb⟩
    have hbb : Below w.heap.size w w1 := ((((Below.refl w.heap.size w).alloc (by simp) (.cells #[.int .i64 m] 3)).alloc (by simp) (.cells #[.int .i64 m] 3)).alloc (by simp <;> omega) (.cells #[.int .i64 m] 3)).trans (hb.mono (by simp <;> omega))
    clear hb
    go_wp2_with fail
    go_ret
    exact ⟨rfl, hbb⟩
  · have HA := Lib.hid hA
    have HX := Lib.hid hX
    have HY := Lib.hid hY
    have HZ := Lib.hid hZ
    clear hA hX hY hZ h1 h2 h3
    go_enter Try.func4, Try.ntmps4
    go_wp2_with fail
    refine (later_any now [m] (some ⟨(w.heap.size), 0, none⟩) 1 (w.alloc (.cells #[.int .i64 m] 3)) (by simp) (rowI_at _ _ _ _ _ (by simp) rfl)).mono ?_
    rw [HL.out]
    rintro e wz ⟨rfl, hwz⟩
    subst wz
    go_wp2_with fail
    refine (old_any s n now (w.alloc (.cells #[.int .i64 m] 3))).mono ?_
    rw [HA.out]
    rintro e wz ⟨rfl, hwz⟩
    subst wz
    go_wp2_with fail
    refine (later_any n [m] (some ⟨(w.heap.size + 1), 0, none⟩) 1 ((w.alloc (.cells #[.int .i64 m] 3)).alloc (.cells #[.int .i64 m] 3)) (by simp) (rowI_at _ _ _ _ _ (by simp) rfl)).mono ?_
    rw [HN.out]
    rintro e wz ⟨rfl, hwz⟩
    subst wz
    go_wp2_with fail
    refine (old_any s N now ((w.alloc (.cells #[.int .i64 m] 3)).alloc (.cells #[.int .i64 m] 3))).mono ?_
    rw [HY.out]
    rintro e wz ⟨rfl, hwz⟩
    subst wz
    go_wp2_with fail
    refine (later_any s [m] (some ⟨(w.heap.size + 2), 0, none⟩) 1 (((w.alloc (.cells #[.int .i64 m] 3)).alloc (.cells #[.int .i64 m] 3)).alloc (.cells #[.int .i64 m] 3)) (by simp) (rowI_at _ _ _ _ _ (by simp) rfl)).mono ?_
    rw [HS.out]
    rintro e wz ⟨rfl, hwz⟩
    subst wz
    go_wp2_with fail
    refine (old_any S n now (((w.alloc (.cells #[.int .i64 m] 3)).alloc (.cells #[.int .i64 m] 3)).alloc (.cells #[.int .i64 m] 3))).mono ?_
    rw [HZ.out]
    rintro e wz ⟨rfl, hwz⟩
    subst wz
    go_wp2_with fail
    refine (old_any s 0 s (((w.alloc (.cells #[.int .i64 m] 3)).alloc (.cells #[.int .i64 m] 3)).alloc (.cells #[.int .i64 m] 3))).mono ?_
    rw [H4.out]
    rintro e wz ⟨rfl, hwz⟩
    subst wz
    go_wp2_with fail
    refine (clamp_any now (((w.alloc (.cells #[.int .i64 m] 3)).alloc (.cells #[.int .i64 m] 3)).alloc (.cells #[.int .i64 m] 3))).mono ?_
    rw [HC.out]
    rintro e wz ⟨rfl, hwz⟩
    subst wz
    go_wp2_with fail
    refine (wakes_any (((w.alloc (.cells #[.int .i64 m] 3)).alloc (.cells #[.int .i64 m] 3)).alloc (.cells #[.int .i64 m] 3))).mono ?_
    rintro e w1 ⟨rfl, hb⟩
    have hbb : Below w.heap.size w w1 := ((((Below.refl w.heap.size w).alloc (by simp) (.cells #[.int .i64 m] 3)).alloc (by simp) (.cells #[.int .i64 m] 3)).alloc (by simp <;> omega) (.cells #[.int .i64 m] 3)).trans (hb.mono (by simp <;> omega))
    clear hb
    go_wp2_with fail
    go_ret
    exact ⟨rfl, hbb⟩
  · have HA := Lib.hid hA
    have HX := Lib.hid hX
    have HY := Lib.hid hY
    have HZ := Lib.hid hZ
    clear hA hX hY hZ h1 h2 h3
    go_enter Try.func4, Try.ntmps4
    go_wp2_with fail
    refine (later_any now [m] (some ⟨(w.heap.size), 0, none⟩) 1 (w.alloc (.cells #[.int .i64 m] 3)) (by simp) (rowI_at _ _ _ _ _ (by simp) rfl)).mono ?_
    rw [HL.out]
    rintro e wz ⟨rfl, hwz⟩
    subst wz
    go_wp2_with fail
    refine (old_any s n now (w.alloc (.cells #[.int .i64 m] 3))).mono ?_
    rw [HA.out]
    rintro e wz ⟨rfl, hwz⟩
    subst wz
    go_wp2_with fail
    refine (old_any s n L (w.alloc (.cells #[.int .i64 m] 3))).mono ?_
    rw [HX.out]
    rintro e wz ⟨rfl, hwz⟩
    subst wz
    go_wp2_with fail
    refine (later_any n [m] (some ⟨(w.heap.size + 1), 0, none⟩) 1 ((w.alloc (.cells #[.int .i64 m] 3)).alloc (.cells #[.int .i64 m] 3)) (by simp) (rowI_at _ _ _ _ _ (by simp) rfl)).mono ?_
    rw [HN.out]
    rintro e wz ⟨rfl, hwz⟩
    subst wz
    go_wp2_with fail
    refine (old_any s N now ((w.alloc (.cells #[.int .i64 m] 3)).alloc (.cells #[.int .i64 m] 3))).mono ?_
    rw [HY.out]
    rintro e wz ⟨rfl, hwz⟩
    subst wz
    go_wp2_with fail
    refine (later_any s [m] (some ⟨(w.heap.size + 2), 0, none⟩) 1 (((w.alloc (.cells #[.int .i64 m] 3)).alloc (.cells #[.int .i64 m] 3)).alloc (.cells #[.int .i64 m] 3)) (by simp) (rowI_at _ _ _ _ _ (by simp) rfl)).mono ?_
    rw [HS.out]
    rintro e wz ⟨rfl, hwz⟩
    subst wz
    go_wp2_with fail
    refine (old_any S n now (((w.alloc (.cells #[.int .i64 m] 3)).alloc (.cells #[.int .i64 m] 3)).alloc (.cells #[.int .i64 m] 3))).mono ?_
    rw [HZ.out]
    rintro e wz ⟨rfl, hwz⟩
    subst wz
    go_wp2_with fail
    refine (old_any s 0 s (((w.alloc (.cells #[.int .i64 m] 3)).alloc (.cells #[.int .i64 m] 3)).alloc (.cells #[.int .i64 m] 3))).mono ?_
    rw [H4.out]
    rintro e wz ⟨rfl, hwz⟩
    subst wz
    go_wp2_with fail
    refine (clamp_any now (((w.alloc (.cells #[.int .i64 m] 3)).alloc (.cells #[.int .i64 m] 3)).alloc (.cells #[.int .i64 m] 3))).mono ?_
    rw [HC.out]
    rintro e wz ⟨rfl, hwz⟩
    subst wz
    go_wp2_with fail
    refine (wakes_any (((w.alloc (.cells #[.int .i64 m] 3)).alloc (.cells #[.int .i64 m] 3)).alloc (.cells #[.int .i64 m] 3))).mono ?_
    rintro e w1 ⟨rfl, hb⟩
    have hbb : Below w.heap.size w w1 := ((((Below.refl w.heap.size w).alloc (by simp) (.cells #[.int .i64 m] 3)).alloc (by simp) (.cells #[.int .i64 m] 3)).alloc (by simp <;> omega) (.cells #[.int .i64 m] 3)).trans (hb.mono (by simp <;> omega))
    clear hb
    go_wp2_with fail
    go_ret
    exact ⟨rfl, hbb⟩
  · have HA := Lib.hid hA
    have HX := Lib.hid hX
    have HY := Lib.hid hY
    have HZ := Lib.hid hZ
    clear hA hX hY hZ h1 h2 h3
    go_enter Try.func4, Try.ntmps4
    go_wp2_with fail
    refine (later_any now [m] (some ⟨(w.heap.size), 0, none⟩) 1 (w.alloc (.cells #[.int .i64 m] 3)) (by simp) (rowI_at _ _ _ _ _ (by simp) rfl)).mono ?_
    rw [HL.out]
    rintro e wz ⟨rfl, hwz⟩
    subst wz
    go_wp2_with fail
    refine (old_any s n now (w.alloc (.cells #[.int .i64 m] 3))).mono ?_
    rw [HA.out]
    rintro e wz ⟨rfl, hwz⟩
    subst wz
    go_wp2_with fail
    refine (old_any s n L (w.alloc (.cells #[.int .i64 m] 3))).mono ?_
    rw [HX.out]
    rintro e wz ⟨rfl, hwz⟩
    subst wz
    go_wp2_with fail
    refine (later_any n [m] (some ⟨(w.heap.size + 1), 0, none⟩) 1 ((w.alloc (.cells #[.int .i64 m] 3)).alloc (.cells #[.int .i64 m] 3)) (by simp) (rowI_at _ _ _ _ _ (by simp) rfl)).mono ?_
    rw [HN.out]
    rintro e wz ⟨rfl, hwz⟩
    subst wz
    go_wp2_with fail
    refine (old_any s N now ((w.alloc (.cells #[.int .i64 m] 3)).alloc (.cells #[.int .i64 m] 3))).mono ?_
    rw [HY.out]
    rintro e wz ⟨rfl, hwz⟩
    subst wz
    go_wp2_with fail
    refine (later_any s [m] (some ⟨(w.heap.size + 2), 0, none⟩) 1 (((w.alloc (.cells #[.int .i64 m] 3)).alloc (.cells #[.int .i64 m] 3)).alloc (.cells #[.int .i64 m] 3)) (by simp) (rowI_at _ _ _ _ _ (by simp) rfl)).mono ?_
    rw [HS.out]
    rintro e wz ⟨rfl, hwz⟩
    subst wz
    go_wp2_with fail
    refine (old_any S n now (((w.alloc (.cells #[.int .i64 m] 3)).alloc (.cells #[.int .i64 m] 3)).alloc (.cells #[.int .i64 m] 3))).mono ?_
    rw [HZ.out]
    rintro e wz ⟨rfl, hwz⟩
    subst wz
    go_wp2_with fail
    refine (old_any s n now (((w.alloc (.cells #[.int .i64 m] 3)).alloc (.cells #[.int .i64 m] 3)).alloc (.cells #[.int .i64 m] 3))).mono ?_
    rw [HA.out]
    rintro e wz ⟨rfl, hwz⟩
    subst wz
    go_wp2_with fail
    refine (old_any s 0 s (((w.alloc (.cells #[.int .i64 m] 3)).alloc (.cells #[.int .i64 m] 3)).alloc (.cells #[.int .i64 m] 3))).mono ?_
    rw [H4.out]
    rintro e wz ⟨rfl, hwz⟩
    subst wz
    go_wp2_with fail
    refine (clamp_any now (((w.alloc (.cells #[.int .i64 m] 3)).alloc (.cells #[.int .i64 m] 3)).alloc (.cells #[.int .i64 m] 3))).mono ?_
    rw [HC.out]
    rintro e wz ⟨rfl, hwz⟩
    subst wz
    go_wp2_with fail
    refine (wakes_any (((w.alloc (.cells #[.int .i64 m] 3)).alloc (.cells #[.int .i64 m] 3)).alloc (.cells #[.int .i64 m] 3))).mono ?_
    rintro e w1 ⟨rfl, hb⟩
    have hbb : Below w.heap.size w w1 := ((((Below.refl w.heap.size w).alloc (by simp) (.cells #[.int .i64 m] 3)).alloc (by simp) (.cells #[.int .i64 m] 3)).alloc (by simp <;> omega) (.cells #[.int .i64 m] 3)).trans (hb.mono (by simp <;> omega))
    clear hb
    go_wp2_with fail
    go_ret
    exact ⟨rfl, hbb⟩
  · have HA := Lib.hid hA
    have HX := Lib.hid hX
    have HY := Lib.hid hY
    have HZ := Lib.hid hZ
    clear hA hX hY hZ h1 h2 h3
    go_enter Try.func4, Try.ntmps4
    go_wp2_with fail
    refine (later_any now [m] (some ⟨(w.heap.size), 0, none⟩) 1 (w.alloc (.cells #[.int .i64 m] 3)) (by simp) (rowI_at _ _ _ _ _ (by simp) rfl)).mono ?_
    rw [HL.out]
    rintro e wz ⟨rfl, hwz⟩
    subst wz
    go_wp2_with fail
    refine (old_any s n now (w.alloc (.cells #[.int .i64 m] 3))).mono ?_
    rw [HA.out]
    rintro e wz ⟨rfl, hwz⟩
    subst wz
    go_wp2_with fail
    refine (old_any s n L (w.alloc (.cells #[.int .i64 m] 3))).mono ?_
    rw [HX.out]
    rintro e wz ⟨rfl, hwz⟩
    subst wz
    go_wp2_with fail
    refine (later_any n [m] (some ⟨(w.heap.size + 1), 0, none⟩) 1 ((w.alloc (.cells #[.int .i64 m] 3)).alloc (.cells #[.int .i64 m] 3)) (by simp) (rowI_at _ _ _ _ _ (by simp) rfl)).mono ?_
    rw [HN.out]
    rintro e wz ⟨rfl, hwz⟩
    subst wz
    go_wp2_with fail
    refine (old_any s N now ((w.alloc (.cells #[.int .i64 m] 3)).alloc (.cells #[.int .i64 m] 3))).mono ?_
    rw [HY.out]
    rintro e wz ⟨rfl, hwz⟩
    subst wz
    go_wp2_with fail
    refine (old_any s n now ((w.alloc (.cells #[.int .i64 m] 3)).alloc (.cells #[.int .i64 m] 3))).mono ?_
    rw [HA.out]
    rintro e wz ⟨rfl, hwz⟩
    subst wz
    go_wp2_with fail
    refine (later_any s [m] (some ⟨(w.heap.size + 2), 0, none⟩) 1 (((w.alloc (.cells #[.int .i64 m] 3)).alloc (.cells #[.int .i64 m] 3)).alloc (.cells #[.int .i64 m] 3)) (by simp) (rowI_at _ _ _ _ _ (by simp) rfl)).mono ?_
    rw [HS.out]
    rintro e wz ⟨rfl, hwz⟩
    subst wz
    go_wp2_with fail
    refine (old_any S n now (((w.alloc (.cells #[.int .i64 m] 3)).alloc (.cells #[.int .i64 m] 3)).alloc (.cells #[.int .i64 m] 3))).mono ?_
    rw [HZ.out]
    rintro e wz ⟨rfl, hwz⟩
    subst wz
    go_wp2_with fail
    refine (old_any s 0 s (((w.alloc (.cells #[.int .i64 m] 3)).alloc (.cells #[.int .i64 m] 3)).alloc (.cells #[.int .i64 m] 3))).mono ?_
    rw [H4.out]
    rintro e wz ⟨rfl, hwz⟩
    subst wz
    go_wp2_with fail
    refine (clamp_any now (((w.alloc (.cells #[.int .i64 m] 3)).alloc (.cells #[.int .i64 m] 3)).alloc (.cells #[.int .i64 m] 3))).mono ?_
    rw [HC.out]
    rintro e wz ⟨rfl, hwz⟩
    subst wz
    go_wp2_with fail
    refine (wakes_any (((w.alloc (.cells #[.int .i64 m] 3)).alloc (.cells #[.int .i64 m] 3)).alloc (.cells #[.int .i64 m] 3))).mono ?_
    rintro e w1 ⟨rfl, hb⟩
    have hbb : Below w.heap.size w w1 := ((((Below.refl w.heap.size w).alloc (by simp) (.cells #[.int .i64 m] 3)).alloc (by simp) (.cells #[.int .i64 m] 3)).alloc (by simp <;> omega) (.cells #[.int .i64 m] 3)).trans (hb.mono (by simp <;> omega))
    clear hb
    go_wp2_with fail
    go_ret
    exact ⟨rfl, hbb⟩
  · have HA := Lib.hid hA
    have HX := Lib.hid hX
    have HY := Lib.hid hY
    have HZ := Lib.hid hZ
    clear hA hX hY hZ h1 h2 h3
    go_enter Try.func4, Try.ntmps4
    go_wp2_with fail
    refine (later_any now [m] (some ⟨(w.heap.size), 0, none⟩) 1 (w.alloc (.cells #[.int .i64 m] 3)) (by simp) (rowI_at _ _ _ _ _ (by simp) rfl)).mono ?_
    rw [HL.out]
    rintro e wz ⟨rfl, hwz⟩
    subst wz
    go_wp2_with fail
    refine (old_any s n now (w.alloc (.cells #[.int .i64 m] 3))).mono ?_
    rw [HA.out]
    rintro e wz ⟨rfl, hwz⟩
    subst wz
    go_wp2_with fail
    refine (old_any s n L (w.alloc (.cells #[.int .i64 m] 3))).mono ?_
    rw [HX.out]
    rintro e wz ⟨rfl, hwz⟩
    subst wz
    go_wp2_with fail
    refine (later_any n [m] (some ⟨(w.heap.size + 1), 0, none⟩) 1 ((w.alloc (.cells #[.int .i64 m] 3)).alloc (.cells #[.int .i64 m] 3)) (by simp) (rowI_at _ _ _ _ _ (by simp) rfl)).mono ?_
    rw [HN.out]
    rintro e wz ⟨rfl, hwz⟩
    subst wz
    go_wp2_with fail
    refine (old_any s N now ((w.alloc (.cells #[.int .i64 m] 3)).alloc (.cells #[.int .i64 m] 3))).mono ?_
    rw [HY.out]
    rintro e wz ⟨rfl, hwz⟩
    subst wz
    go_wp2_with fail
    refine (old_any s n now ((w.alloc (.cells #[.int .i64 m] 3)).alloc (.cells #[.int .i64 m] 3))).mono ?_
    rw [HA.out]
    rintro e wz ⟨rfl, hwz⟩
    subst wz
    go_wp2_with fail
    refine (later_any s [m] (some ⟨(w.heap.size + 2), 0, none⟩) 1 (((w.alloc (.cells #[.int .i64 m] 3)).alloc (.cells #[.int .i64 m] 3)).alloc (.cells #[.int .i64 m] 3)) (by simp) (rowI_at _ _ _ _ _ (by simp) rfl)).mono ?_
    rw [HS.out]
    rintro e wz ⟨rfl, hwz⟩
    subst wz
    go_wp2_with fail
    refine (old_any S n now (((w.alloc (.cells #[.int .i64 m] 3)).alloc (.cells #[.int .i64 m] 3)).alloc (.cells #[.int .i64 m] 3))).mono ?_
    rw [HZ.out]
    rintro e wz ⟨rfl, hwz⟩
    subst wz
    go_wp2_with fail
    refine (old_any s n now (((w.alloc (.cells #[.int .i64 m] 3)).alloc (.cells #[.int .i64 m] 3)).alloc (.cells #[.int .i64 m] 3))).mono ?_
    rw [HA.out]
    rintro e wz ⟨rfl, hwz⟩
    subst wz
    go_wp2_with fail
    refine (old_any s 0 s (((w.alloc (.cells #[.int .i64 m] 3)).alloc (.cells #[.int .i64 m] 3)).alloc (.cells #[.int .i64 m] 3))).mono ?_
    rw [H4.out]
    rintro e wz ⟨rfl, hwz⟩
    subst wz
    go_wp2_with fail
    refine (clamp_any now (((w.alloc (.cells #[.int .i64 m] 3)).alloc (.cells #[.int .i64 m] 3)).alloc (.cells #[.int .i64 m] 3))).mono ?_
    rw [HC.out]
    rintro e wz ⟨rfl, hwz⟩
    subst wz
    go_wp2_with fail
    refine (wakes_any (((w.alloc (.cells #[.int .i64 m] 3)).alloc (.cells #[.int .i64 m] 3)).alloc (.cells #[.int .i64 m] 3))).mono ?_
    rintro e w1 ⟨rfl, hb⟩
    have hbb : Below w.heap.size w w1 := ((((Below.refl w.heap.size w).alloc (by simp) (.cells #[.int .i64 m] 3)).alloc (by simp) (.cells #[.int .i64 m] 3)).alloc (by simp <;> omega) (.cells #[.int .i64 m] 3)).trans (hb.mono (by simp <;> omega))
    clear hb
    go_wp2_with fail
    go_ret
    exact ⟨rfl, hbb⟩
end Go.Proofs.Ytflpohcgjlmedaa
