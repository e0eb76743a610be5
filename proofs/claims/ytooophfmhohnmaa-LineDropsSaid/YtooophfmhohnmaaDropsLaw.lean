/- LineDrops: the walk. -/
import Derived.Test.YtooophfmhohnmaaGreat
set_option linter.unusedSimpArgs false
set_option linter.unusedVariables false
namespace Go.Proofs.Ytooophfmhohnmaa
open Go.RowKit

set_option maxHeartbeats 4000000 in
set_option maxRecDepth 1000000 in
theorem linedrops_great (l : List Int) (n : Int) (a : Option Addr) (c : Nat) (w : World) (hg : 200 < l.length) (hl : l.length ≤ maxLen) :
    Calls Try.prog 5 #[.slice a l.length c, .int .i64 n] w fun e w' => e = .returned (.bool true) ∧ Below w.heap.size w w' := by
  have hq : decide (200 < l.length) = true := by simpa using hg
  go_enter Try.func5, Try.ntmps5
  go_wp2_with fail
  refine (great_one a l.length c w hl).mono ?_
  rw [hq]
  rintro e w1 ⟨rfl, hB⟩
  go_wp2_with fail
  refine (wakes_any w1).mono ?_
  rintro e w2 ⟨rfl, hB2⟩
  have hB := hB.trans (hB2.mono hB.size)
  go_wp2_with fail
  go_ret
  exact ⟨rfl, hB⟩

set_option maxHeartbeats 8000000 in
set_option maxRecDepth 1000000 in
theorem linedrops_none (l : List Int) (n : Int) (a : Option Addr) (c : Nat) (w : World) (hl : l.length ≤ 200) (hI : ∀ x ∈ l, I64 x) (hn : I64 n) (hA : RowC w a c l) (hp : P.place l n = -1) (hno : n ∉ l) (hL : l = P.keep l [n]) :
    Calls Try.prog 5 #[.slice a l.length c, .int .i64 n] w fun e w' => e = .returned (.bool true) ∧ Below w.heap.size w w' := by
  have hq : decide (200 < l.length) = false := by simpa using hl
  have HA := Lib.hid hA
  have HI := Lib.hid hI
  have HP := Lib.hid hp
  have HN := Lib.hid hno
  have HL := Lib.hid hL
  have HJ := Lib.hid hn
  clear hA hI hp hno hL hn
  go_enter Try.func5, Try.ntmps5
  go_wp2_with fail
  refine (great_one a l.length c w (by unfold maxLen; omega)).mono ?_
  rw [hq]
  rintro e w1 ⟨rfl, hB⟩
  have HB1 := Lib.hid hB
  clear hB
  go_wp2_with fail
  refine (place_any l n a c w1 (by omega) (HA.out.below HB1.out)).mono ?_
  rw [HP.out]
  rintro e wz ⟨rfl, hwz⟩
  subst wz
  go_wp2_with fail
  refine (drop_any l [n] l 0 HL.out (by simp) a (some ⟨w1.heap.size, 0, none⟩) c 1 (w1.alloc (.cells #[.int .i64 n] 3)) (by omega) (by simp) HI.out (by intro x hx; simp at hx; subst hx; exact HJ.out) ((HA.out.below HB1.out).below ((Below.refl _ _).alloc (Nat.le_refl _) _)) (rowC_at w1 _ [n] _ _ 1 rfl rfl rfl (by simp))).mono ?_
  rintro e w2 ⟨a2, c2, rfl, hM, hB⟩
  have HB2 := Lib.hid ((HB1.out.alloc HB1.out.size (.cells #[.int .i64 n] 3)).trans (hB.mono (by have := HB1.out.size; simp; omega)))
  have HM := Lib.hid hM.row
  clear hM hB
  go_wp2_with fail
  go_loopw [4, 8] (fun u4 u8 wr => ∃ k : Nat, u8 = .int .i64 k ∧ k ≤ l.length ∧ wr = w2 ∧ u4 = .bool false) (fun _ u _ => l.length - (intOf u).toNat)
  case atStart => exact ⟨0, rfl, by omega, rfl, rfl⟩
  case round =>
    obtain ⟨k, rfl, hk, hwr, rfl⟩ := hrel
    subst wr
    by_cases hlt : k < l.length
    · obtain ⟨b, o, rfl, hb, hat⟩ := (HA.out.2.2.2.below HB2.out) (by omega)
      obtain ⟨x, hx⟩ : ∃ x, l[k]? = some x := ⟨_, List.getElem?_eq_getElem hlt⟩
      have hc := hat k x hx
      have h1 : (x == n) = false := by rw [beq_eq_false_iff_ne]; rintro rfl; exact HN.out (List.mem_of_getElem? hx)
      clear hat hx
      go_wp2_with fail
      go_roundw
      case rel => exact ⟨k + 1, by go_num, by omega, by trivial, by trivial⟩
      case measure => simp [intOf]; omega
    · obtain rfl : k = l.length := by omega
      go_wp2_with fail
      refine (same_any l l a2 a c2 c w2 (by omega) (by omega) HM.out (HA.out.below HB2.out)).mono ?_
      rw [dec_self]
      rintro e w3 ⟨rfl, hB⟩
      have HB3 := Lib.hid (HB2.out.trans (hB.mono HB2.out.size))
      clear hB
      go_wp2_with fail
      refine (wakes_any w3).mono ?_
      rintro e w4 ⟨rfl, hB⟩
      have HB4 := Lib.hid (HB3.out.trans (hB.mono HB3.out.size))
      clear hB
      go_wp2_with fail
      go_ret
      exact ⟨rfl, HB4.out⟩

set_option maxHeartbeats 8000000 in
set_option maxRecDepth 1000000 in
theorem linedrops_some (l : List Int) (n : Int) (a : Option Addr) (c : Nat) (w : World) (hl : l.length ≤ 200) (hI : ∀ x ∈ l, I64 x) (hn : I64 n) (hA : RowC w a c l) (p : Nat) (hpl : p < l.length) (hp : P.place l n = (p : Int)) (hpn : l[p]? = some n) (hpf : ∀ j, j < p → l[j]? ≠ some n)
    (L : List Int) (hL : L = P.keep l [n]) (hLe : L = l.take p ++ l.drop (p + 1)) (s : Nat) (hs : L.length = s) (hsl : s + 1 = l.length) :
    Calls Try.prog 5 #[.slice a l.length c, .int .i64 n] w fun e w' => e = .returned (.bool true) ∧ Below w.heap.size w w' := by
  have hq : decide (200 < l.length) = false := by simpa using hl
  have HA := Lib.hid hA
  have HI := Lib.hid hI
  have HP := Lib.hid hp
  have HPn := Lib.hid hpn
  have HPf := Lib.hid hpf
  have HL := Lib.hid hL
  have HLe := Lib.hid hLe
  have HS := Lib.hid hs
  have HJ := Lib.hid hn
  have hp0 : ¬ (p : Int) < 0 := by omega
  have hp3 : ¬ l.length ≤ p := by omega
  have hp4 : decide ((p : Int) < 0) = false := by simp
  have hp5 : decide (l.length ≤ p) = false := by simp; omega
  have hp6 : decide ((l.length : Int) ≤ (p : Int)) = false := by simp; omega
  have hp1 : (p : Int) < (l.length : Int) := by omega
  have hp2 : ¬ (l.length : Int) ≤ (p : Int) := by omega
  have hs1 : (l.length : Int) - 1 = (s : Int) := by omega
  clear hA hI hp hpn hpf hL hLe hn hs
  go_enter Try.func5, Try.ntmps5
  go_wp2_with fail
  refine (great_one a l.length c w (by unfold maxLen; omega)).mono ?_
  rw [hq]
  rintro e w1 ⟨rfl, hB⟩
  have HB1 := Lib.hid hB
  clear hB
  go_wp2_with fail
  refine (place_any l n a c w1 (by omega) (HA.out.below HB1.out)).mono ?_
  rw [HP.out]
  rintro e wz ⟨rfl, hwz⟩
  subst wz
  have HD := Lib.hid (drop_any l [n] L 1 HL.out (by rw [HS.out]; omega) a (some ⟨w1.heap.size, 0, none⟩) c 1 (w1.alloc (.cells #[.int .i64 n] 3)) (by omega) (by simp) HI.out (by intro x hx; simp at hx; subst hx; exact HJ.out) ((HA.out.below HB1.out).below ((Below.refl _ _).alloc (Nat.le_refl _) _)) (rowC_at w1 _ [n] _ _ 1 rfl rfl rfl (by simp)))
  rw [HS.out] at HD
  go_wp2_with fail
  refine HD.out.mono ?_
  rintro e w2 ⟨a2, c2, rfl, hM, hB⟩
  have HB2 := Lib.hid ((HB1.out.alloc HB1.out.size (.cells #[.int .i64 n] 3)).trans (hB.mono (by have := HB1.out.size; simp; omega)))
  have HM := Lib.hid hM.row
  clear hM hB HD
  obtain ⟨b, o, rfl, hb, hat⟩ := (HA.out.2.2.2.below HB2.out) (by omega)
  have hcp := hat p n HPn.out
  have HAt := Lib.hid hat
  clear hat
  go_wp2_with fail
  clear hcp
  go_loopw [4, 9] (fun u4 u9 wr => ∃ k : Nat, u9 = .int .i64 k ∧ k ≤ s ∧ Below w2.heap.size w2 wr ∧ u4 = .bool false) (fun _ u _ => s - (intOf u).toNat)
  case atStart => exact ⟨0, rfl, by omega, Below.refl _ _, rfl⟩
  case round =>
    obtain ⟨k, rfl, hk, hbw, rfl⟩ := hrel
    by_cases hlt : k < s
    · obtain ⟨b2, o2, rfl, hb2, hat2⟩ := (HM.out.2.2.2.below hbw) (by rw [HS.out]; omega)
      have hat1 := HAt.out.below hbw hb
      have hk0 : (0 : Int) ≤ (k : Int) := by omega
      have hk1 : (k : Int) < (s : Int) := by omega
      have hk3 : (k : Int) + 1 < (l.length : Int) := by omega
      have hk4 : (k : Int) < (l.length : Int) := by omega
      have hk5 : (0 : Int) ≤ (k : Int) + 1 := by omega
      by_cases hkp : p ≤ k
      · obtain ⟨y, hy⟩ : ∃ y, l[k + 1]? = some y := ⟨_, List.getElem?_eq_getElem (by omega)⟩
        have hLy : L[k]? = some y := by
          rw [HLe.out, List.getElem?_append_right (by rw [List.length_take]; omega), List.getElem?_drop, List.length_take, ← hy]
          congr 1; omega
        obtain ⟨j, hj⟩ : ∃ j : Nat, k + 1 = j := ⟨_, rfl⟩
        have hc1 := hat1 (k + 1) y hy
        rw [hj] at hc1
        have HJ2 := Lib.hid (show (k : Int) + 1 = (j : Int) by omega)
        have hj1 : (0 : Int) ≤ (j : Int) := by omega
        have hj2 : (j : Int) < (l.length : Int) := by omega
        clear hj
        have hc2 := hat2 k y hLy
        have hg1 : (p : Int) ≤ (k : Int) := by omega
        have hg2 : decide ((k : Int) < (p : Int)) = false := by simp; omega
        have hg3 : ¬ (k : Int) < (p : Int) := by omega
        have hg4 : decide (k < p) = false := by simp; omega
        have hg5 : ¬ k < p := by omega
        clear hat1 hat2 hy hLy
        go_wp2_with fail
        rw [HJ2.out]
        go_quiet (fail)
        go_wp2_with fail
        go_roundw
        case rel => exact ⟨k + 1, by go_num, by omega, below_drewN hbw _, by trivial⟩
        case measure => simp [intOf]; omega
      · obtain ⟨y, hy⟩ : ∃ y, l[k]? = some y := ⟨_, List.getElem?_eq_getElem (by omega)⟩
        have hLy : L[k]? = some y := by
          rw [HLe.out, List.getElem?_append_left (by rw [List.length_take]; omega), List.getElem?_take, if_pos (by omega), hy]
        have hyn : (y == n) = false := by rw [beq_eq_false_iff_ne]; rintro rfl; exact HPf.out k (by omega) hy
        have hc1 := hat1 k y hy
        have hc2 := hat2 k y hLy
        have hg1 : ¬ (p : Int) ≤ (k : Int) := by omega
        have hg2 : (k : Int) < (p : Int) := by omega
        clear hat1 hat2 hy hLy
        go_wp2_with fail
        go_quiet (fail)
        go_wp2_with fail
        go_roundw
        case rel => exact ⟨k + 1, by go_num, by omega, below_drewN hbw _, by trivial⟩
        case measure => simp [intOf]; omega
    · obtain rfl : k = s := by omega
      have HB3 := Lib.hid (HB2.out.trans (hbw.mono HB2.out.size))
      rename World => wx
      go_wp2_with fail
      refine (wakes_any _).mono ?_
      rintro e w4 ⟨rfl, hB⟩
      have HB4 := Lib.hid (HB3.out.trans (hB.mono HB3.out.size))
      clear hB
      go_wp2_with fail
      go_ret
      exact ⟨rfl, HB4.out⟩

theorem linedrops_walk (l : List Int) (n : Int) (a : Option Addr) (c : Nat) (w : World) (hl : l.length ≤ maxLen) (hI : ∀ x ∈ l, I64 x) (hn : I64 n) (hA : RowC w a c l) :
    Calls Try.prog 5 #[.slice a l.length c, .int .i64 n] w fun e w' => e = .returned (.bool true) ∧ Below w.heap.size w w' := by
  by_cases hg : 200 < l.length
  · exact linedrops_great l n a c w hg hl
  · have he : P.keep l [n] = l.erase n := by rw [P.keep_less]; rfl
    rcases P.place_spec l n with ⟨hp, hno⟩ | ⟨p, hpl, hp, hpn, hpf, hpe⟩
    · exact linedrops_none l n a c w (by omega) hI hn hA hp hno (by rw [he, List.erase_of_not_mem hno])
    · exact linedrops_some l n a c w (by omega) hI hn hA p hpl hp hpn hpf _ rfl (by rw [he, hpe]) _ rfl (by rw [he, hpe]; simp; omega)
end Go.Proofs.Ytooophfmhohnmaa
