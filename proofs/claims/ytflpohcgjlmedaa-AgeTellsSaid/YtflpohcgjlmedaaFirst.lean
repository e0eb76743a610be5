/- The first of a row of numbers. -/
import Derived.Test.YtflpohcgjlmedaaRow
set_option linter.unusedSimpArgs false
set_option linter.unusedVariables false
namespace Go.Proofs.Ytflpohcgjlmedaa
open Go.RowKit

theorem P.firstF_take (k : Nat) (a t x : Int) (l : List Int) (h : a < 0 ∨ P.clamp x < t) : P.firstF k a t (x :: l) = P.firstF (k + 1) k (P.clamp x) l := by rw [P.firstF, if_pos h]
theorem P.firstF_skip (k : Nat) (a t x : Int) (l : List Int) (h : ¬ (a < 0 ∨ P.clamp x < t)) : P.firstF k a t (x :: l) = P.firstF (k + 1) a t l := by rw [P.firstF, if_neg h]

set_option maxHeartbeats 4000000 in
set_option maxRecDepth 1000000 in
theorem first_any (l : List Int) (a : Option Addr) (c : Nat) (w : World) (hl : l.length ≤ 100000) (hA : RowI w a l) :
    Calls Try.prog 9 #[.slice a l.length c] w fun e w' => e = .returned (.tuple #[.int .i64 (P.first l).1, .int .i64 (P.first l).2]) ∧ Below w.heap.size w w' := by
  have HA := Lib.hid hA
  clear hA
  go_enter Try.func9, Try.ntmps9
  go_wp2_with fail
  go_step3
  go_wp2_with fail
  go_step3
  go_wp2_with fail
  go_loopw [2, 4, 10] (fun u2 u4 i wr => ∃ (k : Nat) (p t : Int), i = .int .i64 k ∧ k ≤ l.length ∧ Below w.heap.size w wr ∧ u2 = .int .i64 p ∧ u4 = .int .i64 t ∧ p < k ∧ -1 ≤ p ∧ 0 ≤ t ∧ t ≤ 1073741824 ∧ (p = -1 ∨ 0 < t) ∧ Hid (P.firstF k p t (l.drop k) = P.first l)) (fun _ _ i _ => l.length - (intOf i).toNat)
  case atStart => exact ⟨0, -1, 0, rfl, by omega, Below.refl _ _, rfl, rfl, by omega, by omega, by omega, by omega, .inl rfl, Lib.hid rfl⟩
  case round =>
    obtain ⟨k, p, t, rfl, hk, hbw, rfl, rfl, hp0, hp1, ht0, ht1, hpt, HF⟩ := hrel
    by_cases hlt : k < l.length
    · obtain ⟨b, o, rfl, hb, hat⟩ := (HA.out.below hbw) (by omega)
      obtain ⟨x, hx⟩ : ∃ x, l[k]? = some x := ⟨_, List.getElem?_eq_getElem hlt⟩
      have hc := hat k x hx
      have HX := Lib.hid (P.drop_at l k x hx)
      have c0 := P.clamp_ge x
      have c1 := P.clamp_le x
      clear hat hx
      go_wp2_with fail
      refine (tickOf_any x _).mono ?_
      rintro e wz ⟨rfl, hwz⟩
      subst wz
      by_cases h0 : P.clamp x = 0
      · have HR := Lib.hid (show P.first l = ((k : Int), (0 : Int)) by
          rw [← HF.out, HX.out, P.firstF_take _ _ _ _ _ (by omega), h0, P.firstF_nought _ _ _ (by omega)])
        rw [h0]
        clear h0
        go_wp2_with fail
        try rw [Exit.noGoto_ret]
        go_ret2
        exact ⟨by rw [HR.out]; rfl, hbw⟩
      · have h0 : (P.clamp x == 0) = false := by simpa using h0
        by_cases h1 : p = -1
        · have HR := Lib.hid (P.firstF_take k p t x (l.drop (k + 1)) (by omega))
          subst h1
          go_wp2_with fail
          go_roundw
          case rel => exact ⟨k + 1, k, P.clamp x, by go_num, by omega, hbw, rfl, rfl, by omega, by omega, by omega, by omega, .inr (by simp at h0; omega), Lib.hid (by rw [← HF.out, HX.out, HR.out])⟩
          case measure => simp [intOf]; omega
        · have h1 : (p == -1) = false := by simpa using h1
          by_cases h2 : P.clamp x < t
          · have HR := Lib.hid (P.firstF_take k p t x (l.drop (k + 1)) (by omega))
            go_wp2_with fail
            go_roundw
            case rel => exact ⟨k + 1, k, P.clamp x, by go_num, by omega, hbw, rfl, rfl, by omega, by omega, by omega, by omega, .inr (by simp at h0; omega), Lib.hid (by rw [← HF.out, HX.out, HR.out])⟩
            case measure => simp [intOf]; omega
          · have HR := Lib.hid (P.firstF_skip k p t x (l.drop (k + 1)) (by simp at h1; omega))
            go_wp2_with fail
            go_roundw
            case rel => exact ⟨k + 1, p, t, by go_num, by omega, hbw, rfl, rfl, by omega, by omega, by omega, by omega, hpt, Lib.hid (by rw [← HF.out, HX.out, HR.out])⟩
            case measure => simp [intOf]; omega
    · obtain rfl : k = l.length := by omega
      have h := HF.out
      rw [List.drop_length] at h
      have H2 := Lib.hid (show (p, t) = P.first l from h)
      clear h
      go_wp2_with fail
      try rw [Exit.noGoto_ret]
      go_ret2
      refine ⟨?_, hbw⟩
      rw [← H2.out]
      rfl
end Go.Proofs.Ytflpohcgjlmedaa
