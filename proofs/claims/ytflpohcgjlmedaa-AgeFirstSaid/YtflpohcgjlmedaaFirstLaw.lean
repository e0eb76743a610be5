/- AgeFirst: the walk. -/
import Derived.Test.YtflpohcgjlmedaaLaws
set_option linter.unusedSimpArgs false
set_option linter.unusedVariables false
namespace Go.Proofs.Ytflpohcgjlmedaa
open Go.RowKit

set_option maxHeartbeats 4000000 in
set_option maxRecDepth 1000000 in
theorem agefirst_great (l : List Int) (a : Option Addr) (c : Nat) (w : World) (hl : 200 < l.length) (hm : l.length ≤ maxLen) :
    Calls Try.prog 6 #[.slice a l.length c] w fun e w' => e = .returned (.bool true) ∧ Below w.heap.size w w' := by
  unfold maxLen at hm
  go_enter Try.func6, Try.ntmps6
  go_wp2_with fail
  refine (wakes_any w).mono ?_
  rintro e w1 ⟨rfl, hb⟩
  go_wp2_with fail
  go_ret
  exact ⟨rfl, hb⟩

set_option maxHeartbeats 4000000 in
set_option maxRecDepth 1000000 in
theorem agefirst_none (a : Option Addr) (c : Nat) (w : World) :
    Calls Try.prog 6 #[.slice a 0 c] w fun e w' => e = .returned (.bool true) ∧ Below w.heap.size w w' := by
  go_enter Try.func6, Try.ntmps6
  go_wp2_with fail
  refine (first_any [] a c w (by simp) (fun h => absurd h (by simp))).mono ?_
  rw [show (P.first []).1 = -1 from rfl, show (P.first []).2 = 0 from rfl]
  rintro e w1 ⟨rfl, hb⟩
  go_wp2_with fail
  refine (wakes_any w1).mono ?_
  rintro e w2 ⟨rfl, hb2⟩
  have hb2 := hb.trans (hb2.mono hb.size)
  clear hb
  go_wp2_with fail
  go_ret
  exact ⟨rfl, hb2⟩

set_option maxHeartbeats 4000000 in
set_option maxRecDepth 1000000 in
theorem agefirst_some (l : List Int) (a : Option Addr) (c : Nat) (w : World) (h0 : 0 < l.length) (hl : l.length ≤ 200) (hA : RowI w a l) :
    Calls Try.prog 6 #[.slice a l.length c] w fun e w' => e = .returned (.bool true) ∧ Below w.heap.size w w' := by
  obtain ⟨i, x, hi, hf, hall⟩ := P.first_spec l h0
  obtain ⟨hil, _⟩ := List.getElem?_eq_some_iff.1 hi
  have HF1 := Lib.hid (show (P.first l).1 = (i : Int) by rw [hf])
  obtain ⟨X, hX⟩ : ∃ X, P.clamp x = X := ⟨_, rfl⟩
  rw [hX] at hall hf
  have HF2 := Lib.hid (show (P.first l).2 = X by rw [hf])
  have X0 : 0 ≤ X := hX ▸ P.clamp_ge x
  have X1 : X ≤ 1073741824 := hX ▸ P.clamp_le x
  have HX := Lib.hid hX
  have HI := Lib.hid hi
  have HALL := Lib.hid hall
  have HA := Lib.hid hA
  have h00 : ((l.length : Int) == 0) = false := by rw [beq_eq_false_iff_ne]; omega
  have hli : ¬ l.length ≤ i := by omega
  have hi0 : ¬ (i : Int) < 0 := by omega
  clear hi hf hall hX hA
  go_enter Try.func6, Try.ntmps6
  go_wp2_with fail
  refine (first_any l a c w (by omega) HA.out).mono ?_
  rw [HF1.out, HF2.out]
  rintro e w1 ⟨rfl, hb⟩
  obtain ⟨b, o, rfl, hbl, hat⟩ := HA.out.below hb h0
  have hci := hat i x HI.out
  have HAT := Lib.hid hat
  have hbs := hb.size
  clear hat
  go_wp2_with fail
  refine (clamp_any x w1).mono ?_
  rw [HX.out]
  rintro e wz ⟨rfl, hwz⟩
  subst wz
  go_wp2_with fail
  go_loopw [2, 5] (fun u2 u5 wr => ∃ k : Nat, u5 = .int .i64 k ∧ k ≤ l.length ∧ wr = w1 ∧ u2 = .bool false) (fun _ u _ => l.length - (intOf u).toNat)
  case atStart => exact ⟨0, rfl, by omega, rfl, rfl⟩
  case round =>
    obtain ⟨k, rfl, hk, hwr, rfl⟩ := hrel
    subst wr
    by_cases hlt : k < l.length
    · obtain ⟨y, hy⟩ : ∃ y, l[k]? = some y := ⟨_, List.getElem?_eq_getElem hlt⟩
      have hc := HAT.out k y hy
      obtain ⟨hy1, hy2⟩ := HALL.out k y hy
      have c0 := P.clamp_ge y
      have c1 := P.clamp_le y
      obtain ⟨Y, hY⟩ : ∃ Y, P.clamp y = Y := ⟨_, rfl⟩
      rw [hY] at hy1 hy2 c0 c1
      have HY := Lib.hid hY
      have h3 : (k < i ∧ (Y == X) = false) ∨ ¬ k < i := by
        by_cases h : k < i
        · exact .inl ⟨h, by rw [beq_eq_false_iff_ne]; have := hy2 h; omega⟩
        · exact .inr h
      clear hY hy hy2
      rcases h3 with ⟨h3, h4⟩ | h3
      all_goals
        go_wp2_with fail
        refine (clamp_any y w1).mono ?_
        rw [HY.out]
        rintro e wz ⟨rfl, hwz⟩
        subst wz
        go_wp2_with fail
        go_roundw
        case rel => exact ⟨k + 1, by go_num, by omega, by trivial, rfl⟩
        case measure => simp [intOf]; omega
    · obtain rfl : k = l.length := by omega
      go_wp2_with fail
      refine (wakes_any w1).mono ?_
      rintro e w2 ⟨rfl, hb2⟩
      have hb2 := hb.trans (hb2.mono hb.size)
      go_wp2_with fail
      go_ret
      exact ⟨rfl, hb2⟩
theorem agefirst_walk (l : List Int) (a : Option Addr) (c : Nat) (w : World) (hm : l.length ≤ maxLen) (hA : RowI w a l) :
    Calls Try.prog 6 #[.slice a l.length c] w fun e w' => e = .returned (.bool true) ∧ Below w.heap.size w w' := by
  by_cases h : 200 < l.length
  · exact agefirst_great l a c w h hm
  · by_cases h0 : 0 < l.length
    · exact agefirst_some l a c w h0 (by omega) hA
    · have : l = [] := List.length_eq_zero_iff.1 (by omega)
      subst this
      exact agefirst_none a c w
end Go.Proofs.Ytflpohcgjlmedaa
