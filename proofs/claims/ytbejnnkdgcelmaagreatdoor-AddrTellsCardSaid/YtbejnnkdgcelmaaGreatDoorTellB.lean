/- Texts of addresses: runs of noughts, both families. -/
import Derived.Test.YtbejnnkdgcelmaaGreatDoorTell
set_option linter.unusedSimpArgs false
set_option linter.unusedVariables false
namespace Go.Proofs.YtbejnnkdgcelmaaGreatDoor
open Go.RowKit

def adOf (x0 x1 x2 x3 x4 x5 x6 x7 : Nat) : List Nat := [x0, x1, x2, x3, x4, x5, x6, x7]
theorem runF_end (i b f t : Nat) : P.runF [] i b f t = (f, t) := rfl
theorem runF_one (g : Nat) (l : List Nat) (i b f t : Nat) (h : g ≠ 0) : P.runF (g :: l) i b f t = P.runF l (i + 1) (i + 1) f t := by rw [P.runF, if_neg h]
theorem runF_yes (l : List Nat) (i b f t : Nat) (h : 2 ≤ i + 1 - b ∧ t - f < i + 1 - b) : P.runF (0 :: l) i b f t = P.runF l (i + 1) b b (i + 1) := by rw [P.runF, if_pos rfl, if_pos h]
theorem runF_no (l : List Nat) (i b f t : Nat) (h : ¬ (2 ≤ i + 1 - b ∧ t - f < i + 1 - b)) : P.runF (0 :: l) i b f t = P.runF l (i + 1) b f t := by rw [P.runF, if_pos rfl, if_neg h]

theorem index_groups (x0 x1 x2 x3 x4 x5 x6 x7 : Nat) (k g : Nat) (hk : k < 8) (hg : [x0, x1, x2, x3, x4, x5, x6, x7][k]? = some g) (W : World) :
    (Instr.index 24 (.agg #[.int .u16 x0, .int .u16 x1, .int .u16 x2, .int .u16 x3, .int .u16 x4, .int .u16 x5, .int .u16 x6, .int .u16 x7]) (.int .i64 k)).run Tryz.prog W = .ok (.int .u16 g) W := by
  have hp : Tryz.prog.plainKey 23 = true := by kernel_rfl
  have e : (#[Value.int .u16 x0, .int .u16 x1, .int .u16 x2, .int .u16 x3, .int .u16 x4, .int .u16 x5, .int .u16 x6, .int .u16 x7] : Array Value)[k]? = some (.int .u16 g) := by
    rcases (show k = 0 ∨ k = 1 ∨ k = 2 ∨ k = 3 ∨ k = 4 ∨ k = 5 ∨ k = 6 ∨ k = 7 by omega) with rfl | rfl | rfl | rfl | rfl | rfl | rfl | rfl <;> (simp at hg ⊢; omega)
  have hs := Tryz.sizeOf23 W
  simp only [Instr.index, asIntOf, Sem.run_bind, Sem.run_pure, Result.andThen_ok, run_underlying Tryz.underlying24]
  rw [if_pos (by omega)]
  simp only [Sem.run_bind, hs, Result.andThen_ok, Int.toNat_natCast, Nat.mul_one]
  exact run_part_plain W hp e

set_option maxHeartbeats 4000000 in
set_option maxRecDepth 1000000 in
theorem longest_any (x0 x1 x2 x3 x4 x5 x6 x7 : Nat) (w : World) :
    Calls Tryz.prog 57 #[.agg #[.int .u16 x0, .int .u16 x1, .int .u16 x2, .int .u16 x3, .int .u16 x4, .int .u16 x5, .int .u16 x6, .int .u16 x7]] w fun e w' =>
      e = .returned (.tuple #[.int .i64 (P.runP [x0, x1, x2, x3, x4, x5, x6, x7]).1, .int .i64 (P.runP [x0, x1, x2, x3, x4, x5, x6, x7]).2]) ∧ Below w.heap.size w w' := by
  have HL := Lib.hid (show [x0, x1, x2, x3, x4, x5, x6, x7].length = 8 from rfl)
  have HI := Lib.hid (index_groups x0 x1 x2 x3 x4 x5 x6 x7)
  obtain ⟨L, hL⟩ : ∃ L, [x0, x1, x2, x3, x4, x5, x6, x7] = L := ⟨_, rfl⟩
  rw [hL] at HI HL ⊢
  have HQ := Lib.hid hL
  clear hL
  go_enter Tryz.func57, Tryz.ntmps57
  go_wp2_with fail
  go_loop [2, 3, 4, 9] (fun vf vt vb vi => ∃ k f t b : Nat, vi = .int .i64 k ∧ vf = .int .i64 f ∧ vt = .int .i64 t ∧ vb = .int .i64 b ∧ k ≤ 8 ∧ b ≤ k ∧ f ≤ t ∧ t ≤ k ∧ Hid (P.runF (L.drop k) k b f t = P.runP L)) (fun _ _ _ vi => 8 - (intOf vi).toNat)
  case atStart => exact ⟨0, 0, 0, 0, rfl, rfl, rfl, rfl, by omega, by omega, by omega, by omega, Lib.hid rfl⟩
  case round =>
    obtain ⟨k, f, t, b, rfl, rfl, rfl, rfl, hk, hbk, hft, htk, hrun⟩ := hrel
    by_cases h8 : k = 8
    · subst h8
      have hr := hrun.out
      rw [List.drop_eq_nil_of_le (by rw [HL.out]; omega), runF_end] at hr
      have HR := Lib.hid hr
      clear hr hrun
      go_wp2_with fail
      go_ret2
      exact ⟨by rw [← HR.out]; rfl, (Below.refl _ w).alloc (Nat.le_refl _) _⟩
    · have hk8 : k < 8 := by omega
      obtain ⟨g, hg⟩ : ∃ g, L[k]? = some g := ⟨_, List.getElem?_eq_getElem (by rw [HL.out]; omega)⟩
      have hix := HI.out k g hk8 hg
      have hr := hrun.out
      rw [List.drop_eq_getElem_cons (by rw [HL.out]; omega), show L[k]'(by rw [HL.out]; omega) = g from (List.getElem?_eq_some_iff.1 hg).2] at hr
      clear hg hrun h8
      by_cases hg0 : g = 0
      · subst hg0
        by_cases hc : 2 ≤ k + 1 - b ∧ t - f < k + 1 - b
        · rw [runF_yes _ _ _ _ _ hc] at hr
          have HR := Lib.hid hr
          obtain ⟨hc1, hc2⟩ := hc
          clear hr
          go_wp2_with fail
          go_round
          case rel => exact ⟨k + 1, b, k + 1, b, by go_num, rfl, by go_num, rfl, by omega, by omega, by omega, by omega, HR⟩
          case measure => simp [intOf]; omega
        · rw [runF_no _ _ _ _ _ hc] at hr
          have HR := Lib.hid hr
          clear hr
          by_cases hc1 : 2 ≤ k + 1 - b
          · have hc2 : k + 1 - b ≤ t - f := by omega
            clear hc
            go_wp2_with fail
            go_round
            case rel => exact ⟨k + 1, f, t, b, by go_num, rfl, rfl, rfl, by omega, by omega, by omega, by omega, HR⟩
            case measure => simp [intOf]; omega
          · clear hc
            go_wp2_with fail
            go_round
            case rel => exact ⟨k + 1, f, t, b, by go_num, rfl, rfl, rfl, by omega, by omega, by omega, by omega, HR⟩
            case measure => simp [intOf]; omega
      · rw [runF_one _ _ _ _ _ _ hg0] at hr
        have HR := Lib.hid hr
        clear hr
        go_wp2_with fail
        go_round
        case rel => exact ⟨k + 1, f, t, k + 1, by go_num, rfl, rfl, by go_num, by omega, by omega, by omega, by omega, HR⟩
        case measure => simp [intOf]; omega
end Go.Proofs.YtbejnnkdgcelmaaGreatDoor
