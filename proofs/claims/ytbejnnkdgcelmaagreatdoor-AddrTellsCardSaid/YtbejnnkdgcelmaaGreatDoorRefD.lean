/- The document's own digits. -/
import Derived.Test.YtbejnnkdgcelmaaGreatDoorRefP
import Derived.Test.YtbejnnkdgcelmaaGreatDoorIn
set_option linter.unusedSimpArgs false
set_option linter.unusedVariables false
namespace Go.Proofs.YtbejnnkdgcelmaaGreatDoor
open Go.RowKit

theorem lo_extract : ∀ d, d < 16 → (⟨List.toArray (48 :: 49 :: 50 :: 51 :: 52 :: 53 :: 54 :: 55 :: 56 :: 57 :: 97 :: 98 :: 99 :: 100 :: 101 :: 102 :: [])⟩ : ByteArray).extract d (d + 1) = ⟨#[P.hexC d]⟩ := by
  intro d hd
  rcases (show d = 0 ∨ d = 1 ∨ d = 2 ∨ d = 3 ∨ d = 4 ∨ d = 5 ∨ d = 6 ∨ d = 7 ∨ d = 8 ∨ d = 9 ∨ d = 10 ∨ d = 11 ∨ d = 12 ∨ d = 13 ∨ d = 14 ∨ d = 15 by omega) with rfl | rfl | rfl | rfl | rfl | rfl | rfl | rfl | rfl | rfl | rfl | rfl | rfl | rfl | rfl | rfl <;> rfl
theorem P.dg_len (D : Nat → List UInt8) (B : Nat) (hB : 2 ≤ B) (h0 : D 0 = []) (hs : ∀ m, m ≠ 0 → m ≤ 65535 → D m = D (m / B) ++ [P.hexC (m % B)]) : ∀ k m, m < 2 ^ k → m ≤ 65535 → (D m).length ≤ k
  | 0, m, h, _ => by have : m = 0 := by simpa using h
                     rw [this, h0]; simp
  | k + 1, m, h, h6 => by
    by_cases hm : m = 0
    · rw [hm, h0]; simp
    · rw [hs m hm h6]
      have hd : m / B ≤ m / 2 := Nat.div_le_div_left hB (by omega)
      have := P.dg_len D B hB h0 hs k (m / B) (by rw [Nat.pow_succ] at h; omega) (by omega)
      simp; omega

set_option maxHeartbeats 1000000 in
theorem digits10 (n : Nat) (w : World) (hn : n ≤ 65535) : Calls Tryz.prog 24 #[.int .i64 n, .int .i64 10] w fun e w' => e = .returned (.string ⟨(Lib.decDigits n).toArray⟩) ∧ Below w.heap.size w w' := by
  by_cases hz : n = 0
  · subst hz
    have HZ := Lib.hid P.dec_zero
    go_enter Tryz.func24, Tryz.ntmps24
    go_wp2_with fail
    go_ret
    exact ⟨by rw [HZ.out]; rfl, Below.refl _ _⟩
  · have hz2 : ((n : Nat) : Int) ≠ 0 := by omega
    have hz3 : (((n : Nat) : Int) == 0) = false := by simp [hz]
    have HL := Lib.hid (P.dg_len P.dg10 10 (by omega) rfl (fun m hm h6 => P.dg10_step m hm))
    have HF := Lib.hid (show P.dg10 n = Lib.decDigits n by unfold P.dg10; rw [if_neg hz])
    clear hz
    go_enter Tryz.func24, Tryz.ntmps24
    go_wp2_with fail
    go_loopw [0, 5] (fun u0 u5 wr => ∃ (m q : Nat) (S : ByteArray), u0 = .int .i64 m ∧ u5 = .string S ∧ m ≤ 65535 ∧ wr = w.drewN q ∧ S.size ≤ 20 ∧ Hid (P.dg10 m ++ S.data.toList = P.dg10 n)) (fun u0 _ _ => (intOf u0).toNat)
    case atStart => exact ⟨n, 0, ⟨#[]⟩, rfl, rfl, hn, rfl, by decide, Lib.hid (List.append_nil _)⟩
    case round =>
      obtain ⟨m, q, S, rfl, rfl, hm, rfl, hS, hE⟩ := hrel
      by_cases h0 : 0 < m
      · have hE2 : P.dg10 (m / 10) ++ (P.hexC (m % 10) :: S.data.toList) = P.dg10 n := by
          rw [← hE.out, P.dg10_step m (by omega)]; simp
        have hS2 : S.size + 1 ≤ 20 := by
          have h1 := congrArg List.length hE2
          have h2 := HL.out 16 n (by omega) (by omega)
          simp only [List.length_append, List.length_cons] at h1
          have h3 : S.data.toList.length = S.size := by simp
          omega
        have HE2 := Lib.hid hE2
        clear hE2 hE
        go_wp2_with fail
        go_quiet (fail)
        go_wp2_with fail
        rw [lo_extract (m % 10) (by omega)]
        refine ⟨⟨m / 10, _, _, by go_num, rfl, by omega, rfl, by rw [ByteArray.size_append]; show 1 + S.size ≤ 20; omega, Lib.hid (by rw [← HE2.out, show (⟨#[P.hexC (m % 10)]⟩ ++ S : ByteArray).data.toList = P.hexC (m % 10) :: S.data.toList by simp])⟩, by simp [intOf]; omega⟩
      · obtain rfl : m = 0 := by omega
        have hE3 := hE.out
        have HE3 := Lib.hid (show S = ⟨(Lib.decDigits n).toArray⟩ by
          rw [← HF.out, ← hE.out]; simp [show P.dg10 0 = [] from rfl])
        clear hE hE3
        go_wp2_with fail
        go_ret
        exact ⟨by rw [HE3.out]; rfl, below_drewN (Below.refl _ _) q⟩

set_option maxHeartbeats 1000000 in
theorem digits16 (n : Nat) (w : World) (hn : n ≤ 65535) : Calls Tryz.prog 24 #[.int .i64 n, .int .i64 16] w fun e w' => e = .returned (.string ⟨(P.hexD n).toArray⟩) ∧ Below w.heap.size w w' := by
  by_cases hz : n = 0
  · subst hz
    have HZ := Lib.hid P.hexD_zero
    go_enter Tryz.func24, Tryz.ntmps24
    go_wp2_with fail
    go_ret
    exact ⟨by rw [HZ.out]; rfl, Below.refl _ _⟩
  · have hz2 : ((n : Nat) : Int) ≠ 0 := by omega
    have hz3 : (((n : Nat) : Int) == 0) = false := by simp [hz]
    have HL := Lib.hid (P.dg_len P.dg16 16 (by omega) rfl (fun m hm h6 => P.dg16_step m hm h6))
    have HF := Lib.hid (show P.dg16 n = P.hexD n by unfold P.dg16; rw [if_neg hz])
    clear hz
    go_enter Tryz.func24, Tryz.ntmps24
    go_wp2_with fail
    go_loopw [0, 5] (fun u0 u5 wr => ∃ (m q : Nat) (S : ByteArray), u0 = .int .i64 m ∧ u5 = .string S ∧ m ≤ 65535 ∧ wr = w.drewN q ∧ S.size ≤ 20 ∧ Hid (P.dg16 m ++ S.data.toList = P.dg16 n)) (fun u0 _ _ => (intOf u0).toNat)
    case atStart => exact ⟨n, 0, ⟨#[]⟩, rfl, rfl, hn, rfl, by decide, Lib.hid (List.append_nil _)⟩
    case round =>
      obtain ⟨m, q, S, rfl, rfl, hm, rfl, hS, hE⟩ := hrel
      by_cases h0 : 0 < m
      · have hE2 : P.dg16 (m / 16) ++ (P.hexC (m % 16) :: S.data.toList) = P.dg16 n := by
          rw [← hE.out, P.dg16_step m (by omega) hm]; simp
        have hS2 : S.size + 1 ≤ 20 := by
          have h1 := congrArg List.length hE2
          have h2 := HL.out 16 n (by omega) (by omega)
          simp only [List.length_append, List.length_cons] at h1
          have h3 : S.data.toList.length = S.size := by simp
          omega
        have HE2 := Lib.hid hE2
        clear hE2 hE
        go_wp2_with fail
        go_quiet (fail)
        go_wp2_with fail
        rw [lo_extract (m % 16) (by omega)]
        refine ⟨⟨m / 16, _, _, by go_num, rfl, by omega, rfl, by rw [ByteArray.size_append]; show 1 + S.size ≤ 20; omega, Lib.hid (by rw [← HE2.out, show (⟨#[P.hexC (m % 16)]⟩ ++ S : ByteArray).data.toList = P.hexC (m % 16) :: S.data.toList by simp])⟩, by simp [intOf]; omega⟩
      · obtain rfl : m = 0 := by omega
        have hE3 := hE.out
        have HE3 := Lib.hid (show S = ⟨(P.hexD n).toArray⟩ by
          rw [← HF.out, ← hE.out]; simp [show P.dg16 0 = [] from rfl])
        clear hE hE3
        go_wp2_with fail
        go_ret
        exact ⟨by rw [HE3.out]; rfl, below_drewN (Below.refl _ _) q⟩

end Go.Proofs.YtbejnnkdgcelmaaGreatDoor
