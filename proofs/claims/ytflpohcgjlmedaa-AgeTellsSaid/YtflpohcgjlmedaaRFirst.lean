/- The document's own first of a row of numbers. -/
import Derived.Test.YtflpohcgjlmedaaFirst
set_option linter.unusedSimpArgs false
set_option linter.unusedVariables false
namespace Go.Proofs.Ytflpohcgjlmedaa
open Go.RowKit

set_option maxHeartbeats 4000000 in
set_option maxRecDepth 1000000 in
theorem rfirst_any (l : List Int) (a : Option Addr) (c : Nat) (w : World) (hl : l.length ≤ 100000) (hA : RowI w a l) :
    Calls Try.prog 10 #[.slice a l.length c] w fun e w' => e = .returned (.tuple #[.int .i64 (P.first l).1, .int .i64 (P.first l).2]) ∧ Below w.heap.size w w' := by
  have HA := Lib.hid hA
  clear hA
  go_enter Try.func10, Try.ntmps10
  go_wp2_with fail
  go_loopw [4, 5, 6] (fun u2 u4 i wr => ∃ (k : Nat) (p t : Int), i = .int .i64 k ∧ k ≤ l.length ∧ Below w.heap.size w wr ∧ u2 = .int .i64 p ∧ u4 = .int .i64 t ∧ p < k ∧ -1 ≤ p ∧ 0 ≤ t ∧ t ≤ 1073741824 ∧ Hid (P.firstF k p t (l.drop k) = P.first l)) (fun _ _ i _ => l.length - (intOf i).toNat)
  case atStart => exact ⟨0, -1, 0, rfl, by omega, Below.refl _ _, rfl, rfl, by omega, by omega, by omega, by omega, Lib.hid rfl⟩
  case round =>
    obtain ⟨k, p, t, rfl, hk, hbw, rfl, rfl, hp0, hp1, ht0, ht1, HF⟩ := hrel
    by_cases hlt : k < l.length
    · obtain ⟨b, o, rfl, hb, hat⟩ := (HA.out.below hbw) (by omega)
      obtain ⟨x, hx⟩ : ∃ x, l[k]? = some x := ⟨_, List.getElem?_eq_getElem hlt⟩
      have hc := hat k x hx
      have HX := Lib.hid (P.drop_at l k x hx)
      have c0 := P.clamp_ge x
      have c1 := P.clamp_le x
      clear hat hx
      by_cases h1 : p < 0
      · have HR := Lib.hid (P.firstF_take k p t x (l.drop (k + 1)) (by omega))
        go_wp2_with fail
        refine (rclamp_any x _).mono ?_
        rintro e wz ⟨rfl, hwz⟩
        subst wz
        go_wp2_with fail
        go_roundw
        case rel => exact ⟨k + 1, k, P.clamp x, by go_num, by omega, hbw, rfl, rfl, by omega, by omega, by omega, by omega, Lib.hid (by rw [← HF.out, HX.out, HR.out])⟩
        case measure => simp [intOf]; omega
      · by_cases h2 : P.clamp x < t
        · have HR := Lib.hid (P.firstF_take k p t x (l.drop (k + 1)) (by omega))
          go_wp2_with fail
          refine (rclamp_any x _).mono ?_
          rintro e wz ⟨rfl, hwz⟩
          subst wz
          go_wp2_with fail
          refine (rclamp_any x _).mono ?_
          rintro e wz ⟨rfl, hwz⟩
          subst wz
          go_wp2_with fail
          go_roundw
          case rel => exact ⟨k + 1, k, P.clamp x, by go_num, by omega, hbw, rfl, rfl, by omega, by omega, by omega, by omega, Lib.hid (by rw [← HF.out, HX.out, HR.out])⟩
          case measure => simp [intOf]; omega
        · have HR := Lib.hid (P.firstF_skip k p t x (l.drop (k + 1)) (by omega))
          go_wp2_with fail
          refine (rclamp_any x _).mono ?_
          rintro e wz ⟨rfl, hwz⟩
          subst wz
          go_wp2_with fail
          go_roundw
          case rel => exact ⟨k + 1, p, t, by go_num, by omega, hbw, rfl, rfl, by omega, by omega, by omega, by omega, Lib.hid (by rw [← HF.out, HX.out, HR.out])⟩
          case measure => simp [intOf]; omega
    · obtain rfl : k = l.length := by omega
      have h := HF.out
      rw [List.drop_length] at h
      have H2 := Lib.hid (show (p, t) = P.first l from h)
      clear h
      go_wp2_with fail
      go_ret2
      refine ⟨?_, hbw⟩
      rw [← H2.out]
      rfl

end Go.Proofs.Ytflpohcgjlmedaa
