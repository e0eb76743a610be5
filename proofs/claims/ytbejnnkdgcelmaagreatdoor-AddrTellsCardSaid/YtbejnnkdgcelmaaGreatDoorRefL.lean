/- The document's own order, and who is of a family. -/
import Derived.Test.YtbejnnkdgcelmaaGreatDoorOrdP
import Derived.Test.YtbejnnkdgcelmaaGreatDoorRefM
set_option linter.unusedSimpArgs false
set_option linter.unusedVariables false
namespace Go.Proofs.YtbejnnkdgcelmaaGreatDoor
open Go.RowKit

def lessR (a b : Ad) (i : Nat) : Bool := decide (cmpL ((a.gs ++ [a.p]).drop i) ((b.gs ++ [b.p]).drop i) < 0)
theorem less_fam (a b : Ad) (h : a.f ≠ b.f) : lessP a b = decide (a.f < b.f) := by
  rw [lessP, cmpA_key]
  show decide (cmpL (a.f :: (a.gs ++ [a.p])) (b.f :: (b.gs ++ [b.p])) < 0) = _
  rw [cmpL_cons, if_neg h]
  exact decide_eq_decide.2 (cmp_neg_lt _ _)
theorem less_zero (a b : Ad) (h : a.f = b.f) : lessP a b = lessR a b 0 := by
  rw [lessP, cmpA_key]
  show decide (cmpL (a.f :: (a.gs ++ [a.p])) (b.f :: (b.gs ++ [b.p])) < 0) = _
  rw [cmpL_cons, if_pos h]; rfl
theorem lessR_cons (a b : Ad) (i : Nat) (x y : Int) (l m : List Int) (ha : (a.gs ++ [a.p]).drop i = x :: l) (hb : (b.gs ++ [b.p]).drop i = y :: m) (hl : (a.gs ++ [a.p]).drop (i + 1) = l) (hm : (b.gs ++ [b.p]).drop (i + 1) = m) :
    lessR a b i = if x = y then lessR a b (i + 1) else decide (x < y) := by
  rw [lessR, ha, hb, cmpL_cons]
  split
  · rw [lessR, hl, hm]
  · exact decide_eq_decide.2 (cmp_neg_lt _ _)
theorem lessR_end (a b : Ad) : lessR a b 8 = decide (a.p < b.p) := by
  have h := lessR_cons a b 8 a.p b.p [] [] rfl rfl rfl rfl
  rw [h]
  split
  · rename_i e; rw [e, lessR]
    show decide (cmpL [] [] < 0) = _
    simp [cmpL]
  · rfl

set_option maxHeartbeats 8000000 in
set_option maxRecDepth 100000 in
theorem refLess_any (a b : Ad) (w : World) : Calls Tryz.prog 14 #[a.v, b.v] w fun e w' => e = .returned (.bool (lessP a b)) ∧ Below w.heap.size w w' := by
  have hX := a10_at w a.f a.g0 a.g1 a.g2 a.g3 a.g4 a.g5 a.g6 a.g7 a.p 26
  have hB1 := (Below.refl w.heap.size w).alloc (Nat.le_refl _) (Obj.cells #[.int .i8 a.f, .int .u16 a.g0, .int .u16 a.g1, .int .u16 a.g2, .int .u16 a.g3, .int .u16 a.g4, .int .u16 a.g5, .int .u16 a.g6, .int .u16 a.g7, .int .i64 a.p] 26)
  have hs1 : (w.alloc (Obj.cells #[.int .i8 a.f, .int .u16 a.g0, .int .u16 a.g1, .int .u16 a.g2, .int .u16 a.g3, .int .u16 a.g4, .int .u16 a.g5, .int .u16 a.g6, .int .u16 a.g7, .int .i64 a.p] 26)).heap.size = w.heap.size + 1 := by simp
  obtain ⟨V, hV⟩ : ∃ V, w.alloc (Obj.cells #[.int .i8 a.f, .int .u16 a.g0, .int .u16 a.g1, .int .u16 a.g2, .int .u16 a.g3, .int .u16 a.g4, .int .u16 a.g5, .int .u16 a.g6, .int .u16 a.g7, .int .i64 a.p] 26) = V := ⟨_, rfl⟩
  rw [hV] at hX hB1 hs1
  have hY := a10_at V b.f b.g0 b.g1 b.g2 b.g3 b.g4 b.g5 b.g6 b.g7 b.p 26
  have hX2 := hX.below ((Below.refl V.heap.size V).alloc (Nat.le_refl _) (Obj.cells #[.int .i8 b.f, .int .u16 b.g0, .int .u16 b.g1, .int .u16 b.g2, .int .u16 b.g3, .int .u16 b.g4, .int .u16 b.g5, .int .u16 b.g6, .int .u16 b.g7, .int .i64 b.p] 26)) (by omega)
  have hB2 := hB1.alloc (by omega) (Obj.cells #[.int .i8 b.f, .int .u16 b.g0, .int .u16 b.g1, .int .u16 b.g2, .int .u16 b.g3, .int .u16 b.g4, .int .u16 b.g5, .int .u16 b.g6, .int .u16 b.g7, .int .i64 b.p] 26)
  obtain ⟨W, hW⟩ : ∃ W, V.alloc (Obj.cells #[.int .i8 b.f, .int .u16 b.g0, .int .u16 b.g1, .int .u16 b.g2, .int .u16 b.g3, .int .u16 b.g4, .int .u16 b.g5, .int .u16 b.g6, .int .u16 b.g7, .int .i64 b.p] 26) = W := ⟨_, rfl⟩
  rw [hW] at hY hX2 hB2
  rw [hs1] at hY
  have HX := Lib.hid hX2
  have HY := Lib.hid hY
  have HB := Lib.hid hB2
  have HVW := Lib.hid (And.intro hV hW)
  clear hX hY hX2 hB1 hB2 hV hW hs1
  simp only [Ad.v, Ad.enc]
  obtain ⟨c0, c1, c2, c3, c4, c5, c6, c7, c8, c9, fz⟩ := HX.out
  obtain ⟨d0, d1, d2, d3, d4, d5, d6, d7, d8, d9, dz⟩ := HY.out
  by_cases hf : a.f = b.f
  · have hfb : (a.f != b.f) = false := by simp [hf]
    have HZ := Lib.hid (less_zero a b hf)
    clear hf
    go_enter Tryz.func14, Tryz.ntmps14
    go_wp2_with fail
    rw [HVW.out.1, HVW.out.2]
    go_wp2_with fail
    go_loopw [5] (fun u5 wr => ∃ i q : Nat, u5 = .int .i64 i ∧ i ≤ 8 ∧ wr = W.drewN q ∧ Hid (lessP a b = lessR a b i)) (fun u5 _ => 8 - (intOf u5).toNat)
    case atStart => exact ⟨0, 0, rfl, by omega, rfl, HZ⟩
    case round =>
      obtain ⟨i, q, rfl, hi, rfl, hR⟩ := hrel
      rcases (show i = 0 ∨ i = 1 ∨ i = 2 ∨ i = 3 ∨ i = 4 ∨ i = 5 ∨ i = 6 ∨ i = 7 ∨ i = 8 by omega) with rfl | rfl | rfl | rfl | rfl | rfl | rfl | rfl | rfl
      · rw [show ((0 : Nat) : Int) = 0 from rfl]
        have hS := lessR_cons a b 0 a.g0 b.g0 _ _ rfl rfl rfl rfl
        by_cases hg : a.g0 = b.g0
        · rw [if_pos hg] at hS
          have hgb : (a.g0 != b.g0) = false := by simp [hg]
          have HR2 := Lib.hid (hR.out.trans hS)
          clear hg hS
          go_wp2_with fail
          go_quiet (fail)
          go_wp2_with fail
          go_roundw
          case rel => exact ⟨1, _, rfl, by omega, rfl, HR2⟩
          case measure => simp [intOf]
        · rw [if_neg hg] at hS
          have hgb : (a.g0 != b.g0) = true := by simp [hg]
          have HR2 := Lib.hid (hR.out.trans hS)
          clear hg hS
          go_wp2_with fail
          go_quiet (fail)
          go_wp2_with fail
          go_quiet (fail)
          go_wp2_with fail
          go_ret
          exact ⟨by rw [HR2.out]; rfl, by repeat (first | exact below_drewN HB.out _ | rw [World.drewN_drewN])⟩
      · rw [show ((1 : Nat) : Int) = 1 from rfl]
        have hS := lessR_cons a b 1 a.g1 b.g1 _ _ rfl rfl rfl rfl
        by_cases hg : a.g1 = b.g1
        · rw [if_pos hg] at hS
          have hgb : (a.g1 != b.g1) = false := by simp [hg]
          have HR2 := Lib.hid (hR.out.trans hS)
          clear hg hS
          go_wp2_with fail
          go_quiet (fail)
          go_wp2_with fail
          go_roundw
          case rel => exact ⟨2, _, rfl, by omega, rfl, HR2⟩
          case measure => simp [intOf]
        · rw [if_neg hg] at hS
          have hgb : (a.g1 != b.g1) = true := by simp [hg]
          have HR2 := Lib.hid (hR.out.trans hS)
          clear hg hS
          go_wp2_with fail
          go_quiet (fail)
          go_wp2_with fail
          go_quiet (fail)
          go_wp2_with fail
          go_ret
          exact ⟨by rw [HR2.out]; rfl, by repeat (first | exact below_drewN HB.out _ | rw [World.drewN_drewN])⟩
      · rw [show ((2 : Nat) : Int) = 2 from rfl]
        have hS := lessR_cons a b 2 a.g2 b.g2 _ _ rfl rfl rfl rfl
        by_cases hg : a.g2 = b.g2
        · rw [if_pos hg] at hS
          have hgb : (a.g2 != b.g2) = false := by simp [hg]
          have HR2 := Lib.hid (hR.out.trans hS)
          clear hg hS
          go_wp2_with fail
          go_quiet (fail)
          go_wp2_with fail
          go_roundw
          case rel => exact ⟨3, _, rfl, by omega, rfl, HR2⟩
          case measure => simp [intOf]
        · rw [if_neg hg] at hS
          have hgb : (a.g2 != b.g2) = true := by simp [hg]
          have HR2 := Lib.hid (hR.out.trans hS)
          clear hg hS
          go_wp2_with fail
          go_quiet (fail)
          go_wp2_with fail
          go_quiet (fail)
          go_wp2_with fail
          go_ret
          exact ⟨by rw [HR2.out]; rfl, by repeat (first | exact below_drewN HB.out _ | rw [World.drewN_drewN])⟩
      · rw [show ((3 : Nat) : Int) = 3 from rfl]
        have hS := lessR_cons a b 3 a.g3 b.g3 _ _ rfl rfl rfl rfl
        by_cases hg : a.g3 = b.g3
        · rw [if_pos hg] at hS
          have hgb : (a.g3 != b.g3) = false := by simp [hg]
          have HR2 := Lib.hid (hR.out.trans hS)
          clear hg hS
          go_wp2_with fail
          go_quiet (fail)
          go_wp2_with fail
          go_roundw
          case rel => exact ⟨4, _, rfl, by omega, rfl, HR2⟩
          case measure => simp [intOf]
        · rw [if_neg hg] at hS
          have hgb : (a.g3 != b.g3) = true := by simp [hg]
          have HR2 := Lib.hid (hR.out.trans hS)
          clear hg hS
          go_wp2_with fail
          go_quiet (fail)
          go_wp2_with fail
          go_quiet (fail)
          go_wp2_with fail
          go_ret
          exact ⟨by rw [HR2.out]; rfl, by repeat (first | exact below_drewN HB.out _ | rw [World.drewN_drewN])⟩
      · rw [show ((4 : Nat) : Int) = 4 from rfl]
        have hS := lessR_cons a b 4 a.g4 b.g4 _ _ rfl rfl rfl rfl
        by_cases hg : a.g4 = b.g4
        · rw [if_pos hg] at hS
          have hgb : (a.g4 != b.g4) = false := by simp [hg]
          have HR2 := Lib.hid (hR.out.trans hS)
          clear hg hS
          go_wp2_with fail
          go_quiet (fail)
          go_wp2_with fail
          go_roundw
          case rel => exact ⟨5, _, rfl, by omega, rfl, HR2⟩
          case measure => simp [intOf]
        · rw [if_neg hg] at hS
          have hgb : (a.g4 != b.g4) = true := by simp [hg]
          have HR2 := Lib.hid (hR.out.trans hS)
          clear hg hS
          go_wp2_with fail
          go_quiet (fail)
          go_wp2_with fail
          go_quiet (fail)
          go_wp2_with fail
          go_ret
          exact ⟨by rw [HR2.out]; rfl, by repeat (first | exact below_drewN HB.out _ | rw [World.drewN_drewN])⟩
      · rw [show ((5 : Nat) : Int) = 5 from rfl]
        have hS := lessR_cons a b 5 a.g5 b.g5 _ _ rfl rfl rfl rfl
        by_cases hg : a.g5 = b.g5
        · rw [if_pos hg] at hS
          have hgb : (a.g5 != b.g5) = false := by simp [hg]
          have HR2 := Lib.hid (hR.out.trans hS)
          clear hg hS
          go_wp2_with fail
          go_quiet (fail)
          go_wp2_with fail
          go_roundw
          case rel => exact ⟨6, _, rfl, by omega, rfl, HR2⟩
          case measure => simp [intOf]
        · rw [if_neg hg] at hS
          have hgb : (a.g5 != b.g5) = true := by simp [hg]
          have HR2 := Lib.hid (hR.out.trans hS)
          clear hg hS
          go_wp2_with fail
          go_quiet (fail)
          go_wp2_with fail
          go_quiet (fail)
          go_wp2_with fail
          go_ret
          exact ⟨by rw [HR2.out]; rfl, by repeat (first | exact below_drewN HB.out _ | rw [World.drewN_drewN])⟩
      · rw [show ((6 : Nat) : Int) = 6 from rfl]
        have hS := lessR_cons a b 6 a.g6 b.g6 _ _ rfl rfl rfl rfl
        by_cases hg : a.g6 = b.g6
        · rw [if_pos hg] at hS
          have hgb : (a.g6 != b.g6) = false := by simp [hg]
          have HR2 := Lib.hid (hR.out.trans hS)
          clear hg hS
          go_wp2_with fail
          go_quiet (fail)
          go_wp2_with fail
          go_roundw
          case rel => exact ⟨7, _, rfl, by omega, rfl, HR2⟩
          case measure => simp [intOf]
        · rw [if_neg hg] at hS
          have hgb : (a.g6 != b.g6) = true := by simp [hg]
          have HR2 := Lib.hid (hR.out.trans hS)
          clear hg hS
          go_wp2_with fail
          go_quiet (fail)
          go_wp2_with fail
          go_quiet (fail)
          go_wp2_with fail
          go_ret
          exact ⟨by rw [HR2.out]; rfl, by repeat (first | exact below_drewN HB.out _ | rw [World.drewN_drewN])⟩
      · rw [show ((7 : Nat) : Int) = 7 from rfl]
        have hS := lessR_cons a b 7 a.g7 b.g7 _ _ rfl rfl rfl rfl
        by_cases hg : a.g7 = b.g7
        · rw [if_pos hg] at hS
          have hgb : (a.g7 != b.g7) = false := by simp [hg]
          have HR2 := Lib.hid (hR.out.trans hS)
          clear hg hS
          go_wp2_with fail
          go_quiet (fail)
          go_wp2_with fail
          go_roundw
          case rel => exact ⟨8, _, rfl, by omega, rfl, HR2⟩
          case measure => simp [intOf]
        · rw [if_neg hg] at hS
          have hgb : (a.g7 != b.g7) = true := by simp [hg]
          have HR2 := Lib.hid (hR.out.trans hS)
          clear hg hS
          go_wp2_with fail
          go_quiet (fail)
          go_wp2_with fail
          go_quiet (fail)
          go_wp2_with fail
          go_ret
          exact ⟨by rw [HR2.out]; rfl, by repeat (first | exact below_drewN HB.out _ | rw [World.drewN_drewN])⟩
      · have HR2 := Lib.hid (hR.out.trans (lessR_end a b))
        go_wp2_with fail
        go_ret
        exact ⟨by rw [HR2.out]; rfl, below_drewN HB.out q⟩
  · have hfb : (a.f != b.f) = true := by simp [hf]
    have HR := Lib.hid (less_fam a b hf)
    clear hf
    go_enter Tryz.func14, Tryz.ntmps14
    go_wp2_with fail
    rw [HVW.out.1, HVW.out.2]
    go_wp2_with fail
    go_ret
    exact ⟨by rw [HR.out]; rfl, HB.out⟩
end Go.Proofs.YtbejnnkdgcelmaaGreatDoor
