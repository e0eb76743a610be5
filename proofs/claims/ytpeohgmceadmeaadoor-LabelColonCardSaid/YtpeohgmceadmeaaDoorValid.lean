/- Names: the document's answer, and the program's. -/
import Derived.Test.YtpeohgmceadmeaaDoorOne
import Derived.Deep.Light
namespace Go.Proofs.YtpeohgmceadmeaaDoor
open Go.RowKit

theorem rone_at (s : ByteArray) (pos r n : Nat) (w : World) (h0 : pos < s.size) (hs : s.size ≤ 4000) (ho : Hid (P.one (s.data.toList.drop pos) = (r, n))) :
    Calls Tryd.prog 26 #[.string (s.extract pos s.size)] w fun e w' =>
      e = .returned (.tuple #[.int .i32 r, .int .i64 n]) ∧ w = w' := by
  have e1 : (s.extract pos s.size).data.toList = s.data.toList.drop pos := by
    rw [Lib.extract_data, List.take_of_length_le (by simp)]
  have e2 : (s.extract pos s.size).size = s.size - pos := by simp
  refine (rone_any (s.extract pos s.size) w (by omega) (by omega)).mono fun e w' ⟨he, hw⟩ => ⟨?_, hw⟩
  rw [he, e1, ho.out]

theorem one_zero (l : List UInt8) (h : (P.one l).2 = 0) : P.one l = (0, 0) := by
  have hl : ∀ m n r least, 1 ≤ n → (P.long m n r least).2 = 0 → P.long m n r least = (0, 0) := by
    intro m n r least h1 h2
    rcases P.long_cases m n r least with h | ⟨q, _, h, _⟩
    · exact h
    · rw [h] at h2; simp at h2; omega
  cases l with
  | nil => rfl
  | cons a l =>
    rw [P.one_cons] at h ⊢
    split at h
    · simp at h
    · rename_i h1; rw [if_neg h1]
      split at h
      · rename_i h2; rw [if_pos h2]; exact hl _ 2 _ _ (by omega) h
      · rename_i h2; rw [if_neg h2]
        split at h
        · rename_i h3; rw [if_pos h3]; exact hl _ 3 _ _ (by omega) h
        · rename_i h3; rw [if_neg h3]
          split at h
          · rename_i h4; rw [if_pos h4]; exact hl _ 4 _ _ (by omega) h
          · rename_i h4; rw [if_neg h4]

theorem validR_at (s : ByteArray) (pos r n : Nat) (b : Int) (h0 : pos < s.size) (ho : P.one (s.data.toList.drop pos) = (r, n)) :
    P.validR b (P.runesOf (s.data.toList.drop pos)) = (P.fol b r && P.validR r (P.runesOf (s.data.toList.drop (pos + max 1 n)))) := by
  rw [P.runesOf_at s.data.toList pos (by simpa using h0), P.wd, ho]; rfl
theorem validR_end (s : ByteArray) (pos : Nat) (b : Int) (h0 : s.size ≤ pos) : P.validR b (P.runesOf (s.data.toList.drop pos)) = P.fol b 46 := by
  rw [P.runesOf_end _ _ (by simpa using h0)]; rfl

/-- The step of a look at a name, as facts to be met in the walk. -/
theorem valid_step (s : ByteArray) (pos r n : Nat) (b : Int) (h0 : pos < s.size) (ho : P.one (s.data.toList.drop pos) = (r, n)) (hv : P.validR 46 (P.runesOf s.data.toList) = P.validR b (P.runesOf (s.data.toList.drop pos))) :
    (n = 0 ∨ P.fol b r = false → P.validR 46 (P.runesOf s.data.toList) = false) ∧
    (n ≠ 0 → P.fol b r = true → P.validR 46 (P.runesOf s.data.toList) = P.validR r (P.runesOf (s.data.toList.drop (pos + n)))) := by
  rw [hv, validR_at s pos r n b h0 ho]
  constructor
  · rintro (h | h)
    · have h1 : P.one (s.data.toList.drop pos) = (0, 0) := one_zero _ (by rw [ho]; exact h)
      rw [ho] at h1
      obtain ⟨rfl, rfl⟩ : r = 0 ∧ n = 0 := by simpa using h1
      rw [show P.fol b ((0 : Nat) : Int) = false from (P.fol_bad b).1]; rfl
    · rw [h]; rfl
  · intro h1 h2
    rw [h2, show max 1 n = n from by omega]; rfl

theorem one_room (s : ByteArray) (pos r n : Nat) (h0 : pos < s.size) (ho : P.one (s.data.toList.drop pos) = (r, n)) : pos + n ≤ s.size ∧ r ≤ 1114111 ∧ n ≤ 4 := by
  have h1 := P.one_le (s.data.toList.drop pos)
  have h2 := P.one_lt (s.data.toList.drop pos)
  rw [ho] at h1 h2
  simp at h1 h2
  have : s.data.size = s.size := rfl
  omega

theorem name_eq (s : ByteArray) (h : s.size ≤ 64) : P.name s.data.toList = P.validR 46 (P.runesOf s.data.toList) := by
  have : s.data.toList.length ≤ 64 := by simpa using h
  rw [P.name, decide_eq_true this, Bool.true_and]

set_option maxHeartbeats 1600000 in
set_option maxRecDepth 100000 in
theorem rvalid_any (s : ByteArray) (w : World) (hs : s.size ≤ 4000) :
    Calls Tryd.prog 25 #[.string s] w fun e w' => e = .returned (.bool (P.name s.data.toList)) ∧ w = w' := by
  by_cases h64 : 1 ≤ s.size ∧ s.size ≤ 64
  · obtain ⟨hs1, hs2⟩ := h64
    go_enter Tryd.func25, Tryd.ntmps25
    go_wp2
    go_loop [3, 4, 5] (fun st l i => ∃ pos : Nat, pos ≤ s.size ∧ i = .int .i64 pos ∧ ∃ b : Nat, l = .int .i32 b ∧ ∃ t : Bool, st = .bool t ∧ (t = true ↔ (b : Int) = 46) ∧ Hid (P.validR 46 (P.runesOf s.data.toList) = P.validR b (P.runesOf (s.data.toList.drop pos)))) (fun _ _ i => s.size - (intOf i).toNat)
    case atStart => exact ⟨0, by omega, rfl, 46, rfl, true, rfl, by simp, Lib.hid rfl⟩
    case round =>
      obtain ⟨pos, hp, rfl, b, rfl, t, rfl, htb, hv⟩ := hrel
      by_cases hlt : pos < s.size
      · obtain ⟨r, n, ho⟩ : ∃ r n, P.one (s.data.toList.drop pos) = (r, n) := ⟨_, _, rfl⟩
        obtain ⟨hr1, hr2, hr3⟩ := one_room s pos r n hlt ho
        have HS := Lib.hid (valid_step s pos r n b hlt ho hv.out)
        have HO := Lib.hid ho
        clear hv ho
        have HTB := Lib.hid htb
        clear htb
        go_wp2_with (first | (go_at_call 26; refine (rone_at s pos r n _ hlt hs HO).mono ?_; rintro e w' ⟨rfl, rfl⟩) | (go_at_call 32; refine (rsign_any _ _).mono ?_; rintro e w' ⟨rfl, rfl⟩))
        all_goals first
          | (go_ret
             refine ⟨ret_bool ?_, rfl⟩
             rw [name_eq s hs2, HS.out.1 ?_]
             go_light
             first
               | (left; simp_all; done)
               | (right; rw [P.fol_cases b r t HTB.out]; simp_all; done))
          | (go_round
             case rel =>
               rw [HS.out.2 ?_ ?_]
               · first
                   | exact ⟨pos + n, by omega, by go_num, r, rfl, true, rfl, by go_light; simp_all, Lib.hid rfl⟩
                   | exact ⟨pos + n, by omega, by go_num, r, rfl, false, rfl, by go_light; simp_all, Lib.hid rfl⟩
               · go_light; simp_all
               · go_light; rw [P.fol_cases b r t HTB.out]; simp_all
             case measure =>
               have hn0 : ((n : Int) == 0) = false := by assumption
               have : n ≠ 0 := by simpa using hn0
               simp [intOf]; omega)
      · obtain rfl : pos = s.size := by omega
        rw [validR_end s s.size b (by omega)] at hv
        have HTB := Lib.hid htb
        clear htb
        go_wp2
        all_goals
          go_ret
          refine ⟨ret_bool ?_, rfl⟩
          rw [name_eq s hs2, hv.out, P.fol_cases b 46 t HTB.out]
          go_light
          simp_all
          try rfl
  · have hn : P.name s.data.toList = false := by
      by_cases h : s.size ≤ 64
      · obtain rfl : s = ByteArray.empty := by
          have h0 : s.size = 0 := by omega
          have : s.data.toList = [] := List.length_eq_zero_iff.1 (by simpa using h0)
          rw [← Lib.mk_data s, this]; rfl
        decide
      · have : ¬ s.data.toList.length ≤ 64 := by simpa using h
        rw [P.name, decide_eq_false this]; rfl
    have HN := Lib.hid hn
    clear hn
    by_cases h1 : s.size < 1
    · go_enter Tryd.func25, Tryd.ntmps25
      go_wp2
      go_ret
      exact ⟨by rw [HN.out]; rfl, rfl⟩
    · have h2 : 64 < s.size := by omega
      clear h64
      go_enter Tryd.func25, Tryd.ntmps25
      go_wp2
      go_ret
      exact ⟨by rw [HN.out]; rfl, rfl⟩
end Go.Proofs.YtpeohgmceadmeaaDoor
