/- The document's own longest run of noughts. -/
import Derived.Test.YtbejnnkdgcelmaaGreatDoorRefD
set_option linter.unusedSimpArgs false
set_option linter.unusedVariables false
namespace Go.Proofs.YtbejnnkdgcelmaaGreatDoor
open Go.RowKit

theorem P.nz_end (L : List Nat) (i : Nat) (h : L.length ≤ i) : P.nz (L.drop i) = 0 := by rw [List.drop_eq_nil_of_le h]; rfl
theorem P.nz_zero (L : List Nat) (i : Nat) (h : L[i]? = some 0) : P.nz (L.drop i) = P.nz (L.drop (i + 1)) + 1 := by
  obtain ⟨hlt, he⟩ := List.getElem?_eq_some_iff.1 h
  rw [List.drop_eq_getElem_cons hlt, he, P.nz, if_pos rfl]
theorem P.nz_more (L : List Nat) (i g : Nat) (h : L[i]? = some g) (hg : g ≠ 0) : P.nz (L.drop i) = 0 := by
  obtain ⟨hlt, he⟩ := List.getElem?_eq_some_iff.1 h
  rw [List.drop_eq_getElem_cons hlt, he, P.nz, if_neg hg]
theorem P.runR_end (L : List Nat) (i : Nat) (a : Int) (m : Nat) (h : L.length ≤ i) : P.runR (L.drop i) i a m = (a, m) := by rw [List.drop_eq_nil_of_le h]; rfl
theorem P.runR_yes (L : List Nat) (i : Nat) (a : Int) (m n : Nat) (h : i < L.length) (hn : P.nz (L.drop i) = n) (hm : m < n) : P.runR (L.drop i) i a m = P.runR (L.drop (i + 1)) (i + 1) i n := by
  rw [List.drop_eq_getElem_cons h] at hn ⊢
  rw [P.runR, hn, if_pos hm]
theorem P.runR_no (L : List Nat) (i : Nat) (a : Int) (m n : Nat) (h : i < L.length) (hn : P.nz (L.drop i) = n) (hm : ¬ m < n) : P.runR (L.drop i) i a m = P.runR (L.drop (i + 1)) (i + 1) a m := by
  rw [List.drop_eq_getElem_cons h] at hn ⊢
  rw [P.runR, hn, if_neg hm]

set_option maxHeartbeats 4000000 in
theorem run_any (x0 x1 x2 x3 x4 x5 x6 x7 : Nat) (w : World) :
    Calls Tryz.prog 43 #[.agg #[.int .u16 x0, .int .u16 x1, .int .u16 x2, .int .u16 x3, .int .u16 x4, .int .u16 x5, .int .u16 x6, .int .u16 x7]] w fun e w' =>
      e = .returned (.tuple #[.int .i64 (P.runR [x0, x1, x2, x3, x4, x5, x6, x7] 0 (-1) 1).1, .int .i64 ((P.runR [x0, x1, x2, x3, x4, x5, x6, x7] 0 (-1) 1).2 : Nat)]) ∧ Below w.heap.size w w' := by
  have hGS := gsAt_new x0 x1 x2 x3 x4 x5 x6 x7 w
  have hB0 : Below w.heap.size w (w.alloc (Obj.cells #[.int .u16 (x0 : Int), .int .u16 (x1 : Int), .int .u16 (x2 : Int), .int .u16 (x3 : Int), .int .u16 (x4 : Int), .int .u16 (x5 : Int), .int .u16 (x6 : Int), .int .u16 (x7 : Int)] 24)) := (Below.refl _ w).alloc (Nat.le_refl _) _
  have HL := Lib.hid (show [x0, x1, x2, x3, x4, x5, x6, x7].length = 8 from rfl)
  obtain ⟨L, hL⟩ : ∃ L, [x0, x1, x2, x3, x4, x5, x6, x7] = L := ⟨_, rfl⟩
  rw [hL] at hGS HL ⊢
  clear hL
  have HGS := Lib.hid hGS
  have HB0 := Lib.hid hB0
  clear hGS hB0
  go_enter Tryz.func43, Tryz.ntmps43
  go_wp2_with fail
  generalize hW : w.alloc (Obj.cells #[.int .u16 (x0 : Int), .int .u16 (x1 : Int), .int .u16 (x2 : Int), .int .u16 (x3 : Int), .int .u16 (x4 : Int), .int .u16 (x5 : Int), .int .u16 (x6 : Int), .int .u16 (x7 : Int)] 24) = W1 at *
  clear hW
  go_loop [4, 5, 6] (fun u4 u5 u6 => ∃ (i m : Nat) (a : Int), u6 = .int .i64 i ∧ u4 = .int .i64 a ∧ u5 = .int .i64 m ∧ i ≤ 8 ∧ 1 ≤ m ∧ m ≤ 8 ∧ -1 ≤ a ∧ a ≤ 8 ∧ Hid (P.runR (L.drop i) i a m = P.runR L 0 (-1) 1)) (fun _ _ u6 => 8 - (intOf u6).toNat)
  case atStart => exact ⟨0, 1, -1, rfl, rfl, rfl, by omega, by omega, by omega, by omega, by omega, Lib.hid rfl⟩
  case round =>
    obtain ⟨i, m, a, rfl, rfl, rfl, hi, hm1, hm8, ha1, ha8, hR⟩ := hrel
    by_cases h8 : i < 8
    · go_wp2_with fail
      go_loop [7] (fun u7 => ∃ n : Nat, u7 = .int .i64 n ∧ i + n ≤ 8 ∧ Hid (P.nz (L.drop i) = n + P.nz (L.drop (i + n)))) (fun u7 => 8 - (intOf u7).toNat)
      case atStart => exact ⟨0, rfl, by omega, Lib.hid (by simp)⟩
      case round =>
        obtain ⟨n, rfl, hin, hN⟩ := hrel
        by_cases hn8 : i + n < 8
        · obtain ⟨g, hg⟩ : ∃ g, L[i + n]? = some g := ⟨_, List.getElem?_eq_getElem (by rw [HL.out]; omega)⟩
          have hcg := HGS.out (i + n) g hg
          rw [Nat.zero_add] at hcg
          by_cases hg0 : g = 0
          · subst hg0
            have HN2 := Lib.hid (show P.nz (L.drop i) = (n + 1) + P.nz (L.drop (i + (n + 1))) by rw [hN.out, P.nz_zero L (i + n) hg]; rw [show i + (n + 1) = i + n + 1 by omega]; omega)
            clear hg
            go_wp2_with fail
            go_round
            case rel => exact ⟨n + 1, by go_num, by omega, HN2⟩
            case measure => simp [intOf]; omega
          · have HN2 := Lib.hid (show P.nz (L.drop i) = n by rw [hN.out, P.nz_more L (i + n) g hg hg0]; rfl)
            have hgb : (((g : Nat) : Int) == 0) = false := by simp [hg0]
            have hgd : decide (((g : Nat) : Int) = 0) = false := by simp [hg0]
            clear hg hg0
            by_cases hmn : m < n
            · have HR2 := Lib.hid (show P.runR (L.drop (i + 1)) (i + 1) i n = P.runR L 0 (-1) 1 by rw [← hR.out]; exact (P.runR_yes L i a m n (by rw [HL.out]; omega) HN2.out hmn).symm)
              go_wp2_with fail
              go_round
              case rel => exact ⟨i + 1, n, i, by go_num, rfl, rfl, by omega, by omega, by omega, by omega, by omega, HR2⟩
              case measure => simp [intOf]; omega
            · have HR2 := Lib.hid (show P.runR (L.drop (i + 1)) (i + 1) a m = P.runR L 0 (-1) 1 by rw [← hR.out]; exact (P.runR_no L i a m n (by rw [HL.out]; omega) HN2.out hmn).symm)
              go_wp2_with fail
              go_round
              case rel => exact ⟨i + 1, m, a, by go_num, rfl, rfl, by omega, by omega, by omega, by omega, by omega, HR2⟩
              case measure => simp [intOf]; omega
        · have HN2 := Lib.hid (show P.nz (L.drop i) = n by rw [hN.out, P.nz_end L (i + n) (by rw [HL.out]; omega)]; rfl)
          by_cases hmn : m < n
          · have HR2 := Lib.hid (show P.runR (L.drop (i + 1)) (i + 1) i n = P.runR L 0 (-1) 1 by rw [← hR.out]; exact (P.runR_yes L i a m n (by rw [HL.out]; omega) HN2.out hmn).symm)
            go_wp2_with fail
            go_round
            case rel => exact ⟨i + 1, n, i, by go_num, rfl, rfl, by omega, by omega, by omega, by omega, by omega, HR2⟩
            case measure => simp [intOf]; omega
          · have HR2 := Lib.hid (show P.runR (L.drop (i + 1)) (i + 1) a m = P.runR L 0 (-1) 1 by rw [← hR.out]; exact (P.runR_no L i a m n (by rw [HL.out]; omega) HN2.out hmn).symm)
            go_wp2_with fail
            go_round
            case rel => exact ⟨i + 1, m, a, by go_num, rfl, rfl, by omega, by omega, by omega, by omega, by omega, HR2⟩
            case measure => simp [intOf]; omega
    · have HR2 := Lib.hid (show P.runR L 0 (-1) 1 = (a, m) by rw [← hR.out]; exact P.runR_end L i a m (by rw [HL.out]; omega))
      go_wp2_with fail
      go_ret2
      exact ⟨by rw [HR2.out]; rfl, HB0.out⟩
end Go.Proofs.YtbejnnkdgcelmaaGreatDoor
