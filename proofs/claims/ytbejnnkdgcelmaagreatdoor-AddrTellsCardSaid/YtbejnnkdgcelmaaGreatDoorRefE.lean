/- The document's own numbers and pieces, read. -/
import Derived.Test.YtbejnnkdgcelmaaGreatDoorRefT
import Derived.Test.YtbejnnkdgcelmaaGreatDoorRefQ
set_option linter.unusedSimpArgs false
set_option linter.unusedVariables false
namespace Go.Proofs.YtbejnnkdgcelmaaGreatDoor
open Go.RowKit

def DecPost (o : Option Nat) (w : World) (e : Ending) (w' : World) : Prop := ∃ x : Int, e = .returned (.tuple #[.int .i64 x, .bool o.isSome]) ∧ (∀ n, o = some n → x = n) ∧ w = w'
theorem dec_no (o : Option Nat) (w : World) (h : o = none) : DecPost o w (.returned (.tuple #[.int .i64 0, .bool false])) w := ⟨0, by rw [h]; rfl, fun n hn => (by rw [h] at hn; cases hn), rfl⟩
theorem get_drop (s : ByteArray) (k : Nat) (h : k < s.size) : s.data.toList.drop k = s[k] :: s.data.toList.drop (k + 1) := drop_at s k h
theorem P.decR_no (most : Nat) (l : List UInt8) (hm : most ≤ 65535) (h : l.length < 1 ∨ 5 < l.length ∨ (1 < l.length ∧ l.head? = some 48)) : P.numP most l = none := by
  rw [← P.decR_eq most hm, P.decR, if_pos h]
theorem P.decR_yes (most : Nat) (l : List UInt8) (hm : most ≤ 65535) (h : ¬ (l.length < 1 ∨ 5 < l.length ∨ (1 < l.length ∧ l.head? = some 48))) : P.numP most l = (P.numV 0 l).bind fun r => if r ≤ most then some r else none := by
  rw [← P.decR_eq most hm, P.decR, if_neg h]
theorem list_size (s : ByteArray) : s.data.toList.length = s.size := by simp

set_option maxHeartbeats 4000000 in
theorem decimal_any (s : ByteArray) (most : Nat) (w : World) (hs : s.size ≤ 4000) (hm : most ≤ 65535) :
    Calls Tryz.prog 29 #[.string s, .int .i64 most] w (DecPost (P.numP most s.data.toList) w) := by
  have HL := Lib.hid (list_size s)
  by_cases h1 : s.size < 1
  · have HN := Lib.hid (P.decR_no most s.data.toList hm (Or.inl (by rw [HL.out]; omega)))
    go_enter Tryz.func29, Tryz.ntmps29
    go_wp2_with fail
    go_ret2
    exact dec_no _ w HN.out
  · by_cases h5 : 5 < s.size
    · have HN := Lib.hid (P.decR_no most s.data.toList hm (Or.inr (Or.inl (by rw [HL.out]; omega))))
      go_enter Tryz.func29, Tryz.ntmps29
      go_wp2_with fail
      go_ret2
      exact dec_no _ w HN.out
    · have hpos : 0 < s.size := by omega
      have HH := Lib.hid (show s.data.toList.head? = some (s[0]'hpos) by
        have := get_drop s 0 hpos
        rw [List.drop_zero] at this
        rw [this]; rfl)
      by_cases hz : 1 < s.size ∧ (s[0]'hpos).toNat = 48
      · obtain ⟨hz1, hz2⟩ := hz
        have HN := Lib.hid (P.decR_no most s.data.toList hm (Or.inr (Or.inr ⟨by rw [HL.out]; omega, by rw [HH.out]; exact congrArg some (UInt8.toNat_inj.1 (by simpa using hz2))⟩)))
        have hzb : ((((s[0]'hpos).toNat : Nat) : Int) == 48) = true := by simp [hz2]
        clear hz2
        go_enter Tryz.func29, Tryz.ntmps29
        go_wp2_with fail
        go_ret2
        exact dec_no _ w HN.out
      · have HN := Lib.hid (P.decR_yes most s.data.toList hm (by
          rw [HL.out, HH.out]
          rintro (h | h | ⟨h, h'⟩)
          · omega
          · omega
          · exact hz ⟨h, by rw [Option.some.inj h']; rfl⟩))
        have hzz : s.size ≤ 1 ∨ (s.size > 1 ∧ ((((s[0]'hpos).toNat : Nat) : Int) == 48) = false) := by
          by_cases h : 1 < s.size
          · right; refine ⟨h, ?_⟩
            have : (s[0]'hpos).toNat ≠ 48 := fun e => hz ⟨h, e⟩
            simp; omega
          · left; omega
        clear hz HH
        have hmain : ∀ w, Calls Tryz.prog 29 #[.string s, .int .i64 most] w (DecPost (P.numP most s.data.toList) w) := by
          intro w
          rcases hzz with hz | ⟨hz1, hz2⟩
          all_goals
            go_enter Tryz.func29, Tryz.ntmps29
            go_wp2_with fail
            go_loop [6, 7] (fun u6 u7 => ∃ m k : Nat, u6 = .int .i64 m ∧ u7 = .int .i64 k ∧ k ≤ s.size ∧ m ≤ 99999 ∧ Hid (m < 10 ^ k) ∧ Hid (P.numV m (s.data.toList.drop k) = P.numV 0 s.data.toList)) (fun _ u7 => s.size - (intOf u7).toNat)
            case atStart => exact ⟨0, 0, rfl, rfl, by omega, by omega, Lib.hid (by decide), Lib.hid (by rw [List.drop_zero])⟩
            case round =>
              obtain ⟨m, k, rfl, rfl, hk, hm9, hmk, hV⟩ := hrel
              by_cases hlt : k < s.size
              · have hV2 := hV.out
                rw [get_drop s k hlt, P.numV] at hV2
                by_cases hd1 : (s[k]'hlt).toNat < 48
                · have HN2 := Lib.hid (show P.numP most s.data.toList = none by rw [HN.out, ← hV2, if_neg (by simp [P.digB]; omega)]; rfl)
                  clear hV2
                  go_wp2_with fail
                  go_ret2
                  exact dec_no _ w HN2.out
                · by_cases hd2 : 57 < (s[k]'hlt).toNat
                  · have HN2 := Lib.hid (show P.numP most s.data.toList = none by rw [HN.out, ← hV2, if_neg (by simp [P.digB]; omega)]; rfl)
                    clear hV2
                    go_wp2_with fail
                    go_ret2
                    exact dec_no _ w HN2.out
                  · rw [if_pos (by simp [P.digB]; omega)] at hV2
                    have HV2 := Lib.hid hV2
                    clear hV2
                    have hp : 10 * m + ((s[k]'hlt).toNat - 48) < 10 ^ (k + 1) := by have := hmk.out; rw [Nat.pow_succ]; omega
                    have hp5 : 10 ^ (k + 1) ≤ 10 ^ 5 := Nat.pow_le_pow_right (by omega) (by omega)
                    have HP := Lib.hid hp
                    have hm10 : 10 * m + ((s[k]'hlt).toNat - 48) ≤ 99999 := by omega
                    clear hp hp5
                    go_wp2_with fail
                    go_round
                    case rel => exact ⟨10 * m + ((s[k]'hlt).toNat - 48), k + 1, congrArg (Value.int .i64) (by omega), by go_num, by omega, hm10, HP, HV2⟩
                    case measure => simp [intOf]; omega
              · obtain rfl : k = s.size := by omega
                have HN2 := Lib.hid (show P.numP most s.data.toList = if m ≤ most then some m else none by
                  rw [HN.out, ← hV.out, List.drop_of_length_le (by rw [HL.out]; omega)]; rfl)
                go_wp2_with fail
                go_ret2
                refine ⟨m, ?_, ?_, rfl⟩
                · rw [HN2.out]
                  by_cases h : m ≤ most
                  · rw [if_pos h]; simp [h]
                  · rw [if_neg h]; simp; omega
                · rw [HN2.out]
                  intro n hn
                  by_cases h : m ≤ most
                  · rw [if_pos h] at hn; rw [Option.some.inj hn]
                  · rw [if_neg h] at hn; cases hn
        exact hmain w

def P.grpV (o : Option Nat) : Value := .tuple #[.int .u16 ((o.getD 0 : Nat) : Int), .bool o.isSome]
set_option maxHeartbeats 8000000 in
theorem hex_any (s : ByteArray) (w : World) (hs : s.size ≤ 4000) :
    Calls Tryz.prog 66 #[.string s] w fun e w' => e = .returned (P.grpV (P.grpP s.data.toList)) ∧ w = w' := by
  have HL := Lib.hid (list_size s)
  by_cases h1 : s.size < 1
  · have HN := Lib.hid (show P.grpP s.data.toList = none by rw [P.grpP, if_pos]; left; apply List.length_eq_zero_iff.1; rw [HL.out]; omega)
    go_enter Tryz.func66, Tryz.ntmps66
    go_wp2_with fail
    go_ret2
    exact ⟨by rw [HN.out]; rfl, rfl⟩
  · by_cases h5 : 4 < s.size
    · have HN := Lib.hid (show P.grpP s.data.toList = none by rw [P.grpP, if_pos]; right; rw [HL.out]; exact h5)
      go_enter Tryz.func66, Tryz.ntmps66
      go_wp2_with fail
      go_ret2
      exact ⟨by rw [HN.out]; rfl, rfl⟩
    · have HN := Lib.hid (show P.grpP s.data.toList = P.grpF 0 s.data.toList by
        rw [P.grpP, if_neg]; rintro (h | h)
        · have := congrArg List.length h; rw [HL.out] at this; exact h1 (by rw [this]; exact Nat.zero_lt_one)
        · rw [HL.out] at h; omega)
      go_enter Tryz.func66, Tryz.ntmps66
      go_wp2_with fail
      go_loop [4, 5] (fun u4 u5 => ∃ m k : Nat, u4 = .int .i64 m ∧ u5 = .int .i64 k ∧ k ≤ s.size ∧ m ≤ 65535 ∧ Hid (m < 16 ^ k) ∧ Hid (P.grpF m (s.data.toList.drop k) = P.grpF 0 s.data.toList)) (fun _ u5 => s.size - (intOf u5).toNat)
      case atStart => exact ⟨0, 0, rfl, rfl, by omega, by omega, Lib.hid (by decide), Lib.hid (by rw [List.drop_zero])⟩
      case round =>
        obtain ⟨m, k, rfl, rfl, hk, hm9, hmk, hV⟩ := hrel
        by_cases hlt : k < s.size
        · have hV2 := hV.out
          rw [get_drop s k hlt, P.grpF] at hV2
          generalize hb : s[k]'hlt = b at hV2
          have hbn : (s[k]'hlt).toNat = b.toNat := by rw [hb]
          have hb2 : b.toNat < 256 := b.toNat_lt
          cases hx : P.hexB b with
          | none =>
            rw [hx] at hV2
            obtain ⟨n1, n2, n3⟩ := hexB_none b hx
            have HN2 := Lib.hid (show P.grpP s.data.toList = none by rw [HN.out, ← hV2])
            clear hV2 hx
            rcases (show b.toNat < 48 ∨ (57 < b.toNat ∧ b.toNat < 65) ∨ (70 < b.toNat ∧ b.toNat < 97) ∨ 102 < b.toNat by omega) with hr | ⟨hr1, hr2⟩ | ⟨hr1, hr2⟩ | hr
            all_goals
              clear n1 n2 n3
              go_wp2_with fail
              go_ret2
              exact ⟨by rw [HN2.out]; rfl, rfl⟩
          | some d =>
            rw [hx] at hV2
            have HV2 := Lib.hid hV2
            have hd := (hexB_some b d hx).1
            have hp : 16 * m + d < 16 ^ (k + 1) := by have := hmk.out; rw [Nat.pow_succ]; omega
            have hp5 : 16 ^ (k + 1) ≤ 16 ^ 4 := Nat.pow_le_pow_right (by omega) (by omega)
            have HP := Lib.hid hp
            have hm10 : 16 * m + d ≤ 65535 := by omega
            clear hp hp5 hV2
            have hcase : (48 ≤ b.toNat ∧ b.toNat ≤ 57 ∧ d = b.toNat - 48) ∨ (97 ≤ b.toNat ∧ b.toNat ≤ 102 ∧ d = b.toNat - 87) ∨ (65 ≤ b.toNat ∧ b.toNat ≤ 70 ∧ d = b.toNat - 55) := by
              unfold P.hexB at hx
              split at hx
              · rename_i h; left; exact ⟨h.1, h.2, (Option.some.inj hx).symm⟩
              · split at hx
                · rename_i h; right; left; exact ⟨h.1, h.2, (Option.some.inj hx).symm⟩
                · split at hx
                  · rename_i h; right; right; exact ⟨h.1, h.2, (Option.some.inj hx).symm⟩
                  · cases hx
            clear hx
            rcases hcase with ⟨r1, r2, r3⟩ | ⟨r1, r2, r3⟩ | ⟨r1, r2, r3⟩
            all_goals
              have HD := Lib.hid r3
              clear r3
              go_wp2_with fail
              go_round
              case rel => exact ⟨16 * m + d, k + 1, congrArg (Value.int .i64) (by have := HD.out; omega), by go_num, by omega, hm10, HP, HV2⟩
              case measure => simp [intOf]; omega
        · obtain rfl : k = s.size := by omega
          have HN2 := Lib.hid (show P.grpP s.data.toList = some m by
            rw [HN.out, ← hV.out, List.drop_of_length_le (by rw [HL.out]; omega)]; rfl)
          go_wp2_with fail
          go_ret2
          exact ⟨by rw [HN2.out]; rfl, rfl⟩
end Go.Proofs.YtbejnnkdgcelmaaGreatDoor
