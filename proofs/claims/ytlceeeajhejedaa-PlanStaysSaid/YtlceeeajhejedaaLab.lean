/- Names: the program's own look. -/
import Derived.Test.YtlceeeajhejedaaProg
import Derived.Test.YtlceeeajhejedaaLabP
import Derived.WalkKit
import Derived.BigCall
import Derived.LoopTactic
import Derived.Outline
import Derived.Deep.QuietTactic
import Derived.BigQuiet
import Derived.Lib.Hide
import Derived.Handy
import Derived.Deep.Light
import Derived.Deep.LoopGhost
set_option linter.unusedSimpArgs false
set_option linter.unusedVariables false
namespace Go.Proofs.Ytlceeeajhejedaa.Lab
open Go.RowKit

theorem ret_bool {a b : Bool} (h : a = b) : Ending.returned (.bool a) = .returned (.bool b) := by rw [h]
theorem ret_int {k : IntKind} {a b : Int} (h : a = b) : Ending.returned (.int k a) = .returned (.int k b) := by rw [h]

set_option maxHeartbeats 400000 in
theorem isLetter_any (r : Int) (w : World) :
    Calls Try.prog 75 #[.int .i32 r] w fun e w' => e = .returned (.bool (P.letB r)) ∧ w = w' := by
  go_enter Try.func75, Try.ntmps75
  go_wp2
  all_goals (go_ret; refine ⟨ret_bool ?_, rfl⟩; rw [Bool.eq_iff_iff]; simp only [P.letB, decide_eq_true_eq, beq_iff_eq, beq_eq_false_iff_ne, Bool.false_eq_true, true_iff, false_iff] at *; omega)

set_option maxHeartbeats 400000 in
theorem isDigit_any (r : Int) (w : World) :
    Calls Try.prog 76 #[.int .i32 r] w fun e w' => e = .returned (.bool (P.digB r)) ∧ w = w' := by
  go_enter Try.func76, Try.ntmps76
  go_wp2
  all_goals (go_ret; refine ⟨ret_bool ?_, rfl⟩; rw [Bool.eq_iff_iff]; simp only [P.digB, decide_eq_true_eq, Bool.false_eq_true, true_iff, false_iff] at *; omega)

theorem fol_dot (b r : Int) (h : (r == 46) = true) : P.fol b r = decide (¬ b = 46 ∧ ¬ b = 45) := by rw [P.fol, if_pos (by simpa using h)]
theorem fol_hyphen (b r : Int) (h : (r == 46) = false) (h' : (r == 45) = true) : P.fol b r = decide (¬ b = 46) := by rw [P.fol, if_neg (by simpa using h), if_pos (by simpa using h')]
theorem fol_sign (b r : Int) (h : (r == 46) = false) (h' : (r == 45) = false) : P.fol b r = (P.letB r || P.digB r) := by rw [P.fol, if_neg (by simpa using h), if_neg (by simpa using h')]

set_option maxHeartbeats 400000 in
theorem follows_any (b r : Int) (w : World) :
    Calls Try.prog 71 #[.int .i32 b, .int .i32 r] w fun e w' => e = .returned (.bool (P.fol b r)) ∧ w = w' := by
  go_enter Try.func71, Try.ntmps71
  go_wp2_with (first | (go_at_call 75; refine (isLetter_any _ _).mono ?_; rintro e w' ⟨rfl, rfl⟩) | (go_at_call 76; refine (isDigit_any _ _).mono ?_; rintro e w' ⟨rfl, rfl⟩))
  all_goals (go_ret; refine ⟨ret_bool ?_, rfl⟩)
  all_goals first | (rw [fol_dot _ _ (by assumption)]; rw [Bool.eq_iff_iff]; simp_all; done) | (rw [fol_hyphen _ _ (by assumption) (by assumption)]; rw [Bool.eq_iff_iff]; simp_all; done) | (rw [fol_sign _ _ (by assumption) (by assumption)]; simp_all; done)

set_option maxHeartbeats 400000 in
theorem foldRune_any (r : Int) (w : World) (h0 : 0 ≤ r) (h1 : r ≤ 1114111) :
    Calls Try.prog 60 #[.int .i32 r] w fun e w' => e = .returned (.int .i32 (P.foldR r)) ∧ w = w' := by
  go_enter Try.func60, Try.ntmps60
  go_wp2
  all_goals (go_ret; refine ⟨ret_int ?_, rfl⟩)
  all_goals (unfold P.foldR; first | (rw [if_pos (by omega)]; done) | (rw [if_neg (by omega)]; done))

theorem one_zero (l : List UInt8) (h : (P.one l).2 = 0) : P.one l = (0, 0) := by
  have hl : ∀ m n r least, 1 ≤ n → (P.long m n r least).2 = 0 → P.long m n r least = (0, 0) := by
    intro m n r least h1 h2
    rcases P.long_cases m n r least with h | ⟨q, _, h, _⟩
    · exact h
    · rw [h] at h2; simp at h2; omega
  cases l with
  | nil => rfl
  | cons a l =>
    rw [P.one_cons] at h ⊢
    split at h
    · simp at h
    · rename_i h1; rw [if_neg h1]
      split at h
      · rename_i h2; rw [if_pos h2]; exact hl _ 2 _ _ (by omega) h
      · rename_i h2; rw [if_neg h2]
        split at h
        · rename_i h3; rw [if_pos h3]; exact hl _ 3 _ _ (by omega) h
        · rename_i h3; rw [if_neg h3]
          split at h
          · rename_i h4; rw [if_pos h4]; exact hl _ 4 _ _ (by omega) h
          · rename_i h4; rw [if_neg h4]

theorem validR_at (s : ByteArray) (pos r n : Nat) (b : Int) (h0 : pos < s.size) (ho : P.one (s.data.toList.drop pos) = (r, n)) :
    P.validR b (P.runesOf (s.data.toList.drop pos)) = (P.fol b r && P.validR r (P.runesOf (s.data.toList.drop (pos + max 1 n)))) := by
  rw [P.runesOf_at s.data.toList pos (by simpa using h0), P.wd, ho]; rfl
theorem validR_end (s : ByteArray) (pos : Nat) (b : Int) (h0 : s.size ≤ pos) : P.validR b (P.runesOf (s.data.toList.drop pos)) = P.fol b 46 := by
  rw [P.runesOf_end _ _ (by simpa using h0)]; rfl

/-- The step of a look at a name, as facts to be met in the walk. -/
theorem valid_step (s : ByteArray) (pos r n : Nat) (b : Int) (h0 : pos < s.size) (ho : P.one (s.data.toList.drop pos) = (r, n)) (hv : P.validR 46 (P.runesOf s.data.toList) = P.validR b (P.runesOf (s.data.toList.drop pos))) :
    (n = 0 ∨ P.fol b r = false → P.validR 46 (P.runesOf s.data.toList) = false) ∧
    (n ≠ 0 → P.fol b r = true → P.validR 46 (P.runesOf s.data.toList) = P.validR r (P.runesOf (s.data.toList.drop (pos + n)))) := by
  rw [hv, validR_at s pos r n b h0 ho]
  constructor
  · rintro (h | h)
    · have h1 : P.one (s.data.toList.drop pos) = (0, 0) := one_zero _ (by rw [ho]; exact h)
      rw [ho] at h1
      obtain ⟨rfl, rfl⟩ : r = 0 ∧ n = 0 := by simpa using h1
      rw [show P.fol b ((0 : Nat) : Int) = false from (P.fol_bad b).1]; rfl
    · rw [h]; rfl
  · intro h1 h2
    rw [h2, show max 1 n = n from by omega]; rfl

theorem one_room (s : ByteArray) (pos r n : Nat) (h0 : pos < s.size) (ho : P.one (s.data.toList.drop pos) = (r, n)) : pos + n ≤ s.size ∧ r ≤ 1114111 ∧ n ≤ 4 := by
  have h1 := P.one_le (s.data.toList.drop pos)
  have h2 := P.one_lt (s.data.toList.drop pos)
  rw [ho] at h1 h2
  simp at h1 h2
  have : s.data.size = s.size := rfl
  omega

theorem name_eq (s : ByteArray) (h : s.size ≤ 64) : P.name s.data.toList = P.validR 46 (P.runesOf s.data.toList) := by
  have : s.data.toList.length ≤ 64 := by simpa using h
  rw [P.name, decide_eq_true this, Bool.true_and]

theorem decode_at (s : ByteArray) (pos : Nat) (h : pos < s.size) (r n : Nat) (ho : P.one (s.data.toList.drop pos) = (r, n)) :
    Utf8.decode s pos = if n = 0 then (65533, 1) else (r, n) := by
  rw [P.decode_eq s pos h, ho]; rfl

theorem all_false (ss : List ByteArray) (k : Nat) (h : k < ss.length) (hn : P.name ss[k].data.toList = false) : (ss.all fun s => P.name s.data.toList) = false := by
  rw [List.all_eq_false]
  exact ⟨ss[k], List.getElem_mem h, by simp [hn]⟩
theorem all_true (ss : List ByteArray) (hn : ∀ (j : Nat) (h : j < ss.length), P.name ss[j].data.toList = true) : (ss.all fun s => P.name s.data.toList) = true := by
  rw [List.all_eq_true]
  intro s hs
  obtain ⟨j, hj, rfl⟩ := List.getElem_of_mem hs
  exact hn j hj
theorem name_long (s : ByteArray) (h : 64 < s.size) : P.name s.data.toList = false := by
  have : ¬ s.data.toList.length ≤ 64 := by simpa using h
  rw [P.name, decide_eq_false this]; rfl
theorem nat_eq_false (a b : Nat) (h : a < b) : ((a : Int) == (b : Int)) = false := by
  rw [beq_eq_false_iff_ne]; omega

set_option maxHeartbeats 1600000 in
set_option maxRecDepth 100000 in
theorem valid_any (ss : List ByteArray) (bk : Nat) (w : World) (hl : ss.length ≤ 2) (hss : ∀ s ∈ ss, s.size ≤ 4000) (hbk : bk < w.heap.size)
    (hc : ∀ (k : Nat) (h : k < ss.length), w.cell? ⟨bk, k, none⟩ = some (.string ss[k])) :
    Calls Try.prog 58 #[.slice (some ⟨bk, 0, none⟩) ss.length ss.length] w fun e w' =>
      e = .returned (.bool (ss.all fun s => P.name s.data.toList)) ∧ Below w.heap.size w w' := by
  have HC := Lib.hid hc
  have HSS := Lib.hid hss
  clear hc hss
  go_enter Try.func58, Try.ntmps58
  go_wp2
  go_step3
  go_wp2
  go_step3
  go_wp2
  go_loopg [3, 11] ss.length (fun g good ix wr => ∃ k, k + g = ss.length ∧ ix = .int .i64 k ∧ good = .int .i64 k ∧ Hid (∀ (j : Nat) (h : j < ss.length), j < k → P.name ss[j].data.toList = true) ∧ Below w.heap.size w wr)
  case atStart => exact ⟨0, by omega, rfl, rfl, Lib.hid (fun j h h' => absurd h' (by omega)), Below.refl _ _⟩
  case round =>
    obtain ⟨k, hkg, rfl, rfl, hn, hb⟩ := hrel
    by_cases hk : k < ss.length
    · have hck : wr.cell? ⟨bk, k, none⟩ = some (.string ss[k]) := by
        rw [hb.cell (p := ⟨bk, k, none⟩) hbk]; exact HC.out k hk
      have hsz := HSS.out ss[k] (List.getElem_mem hk)
      have HF := Lib.hid (fun h => all_false ss k hk h)
      have HN := Lib.hid (fun (h : P.name ss[k].data.toList = true) => (show ∀ (j : Nat) (h : j < ss.length), j < k + 1 → P.name ss[j].data.toList = true from fun j h1 h2 => by
        by_cases hj : j = k
        · subst hj; exact h
        · exact hn.out j h1 (by omega)))
      have HKF := nat_eq_false k ss.length hk
      generalize ss[k] = s at hck hsz HF HN
      by_cases h64 : 64 < s.size
      · go_wp2
        try rw [Exit.noGoto_ret]
        go_ret
        exact ⟨by rw [HF.out (name_long s h64)]; rfl, hb⟩
      · have HNE := Lib.hid (name_eq s (by omega))
        have hbs := hb.size
        obtain ⟨wo, rfl⟩ : ∃ wo : World, wo = wr := ⟨_, rfl⟩
        go_wp2
        go_loopg [6] s.size (fun g b wi => ∃ pos b' : Nat, pos + g = s.size ∧ b = .int .i32 b' ∧ wi = wo.iter s pos ∧ Hid (P.validR 46 (P.runesOf s.data.toList) = P.validR b' (P.runesOf (s.data.toList.drop pos))))
        case atStart => exact ⟨0, 46, by omega, rfl, rfl, Lib.hid rfl⟩
        case round =>
          obtain ⟨pos, b, hpg, rfl, rfl, hv⟩ := hrel
          have hbi : Below w.heap.size w (wo.iter s pos) := hb.alloc hbs _
          by_cases hp : pos < s.size
          · obtain ⟨r, n, ho⟩ : ∃ r n, P.one (s.data.toList.drop pos) = (r, n) := ⟨_, _, rfl⟩
            obtain ⟨hr1, hr2, hr3⟩ := one_room s pos r n hp ho
            have HS := Lib.hid (valid_step s pos r n b hp ho hv.out)
            have hnx := fun ty => run_next_any (P := Try.prog) wo s pos ty hp
            rw [decode_at s pos hp r n ho] at hnx
            clear hv ho
            by_cases hn0 : n = 0
            · rw [if_pos hn0] at hnx
              have hf := (P.fol_bad b).2
              have hf' : P.fol (↑b) ((65533, 1) : Nat × Nat).1 = false := hf
              go_wp2_with (go_at_call 71; refine (follows_any _ _ _).mono ?_; rintro e w' ⟨rfl, rfl⟩)
              try rw [Exit.noGoto_ret]
              go_ret
              exact ⟨by rw [HF.out (by rw [HNE.out]; exact HS.out.1 (Or.inl hn0))]; rfl, hb.alloc hbs _⟩
            · rw [if_neg hn0] at hnx
              by_cases hf : P.fol b r = true
              · go_wp2_with (go_at_call 71; refine (follows_any _ _ _).mono ?_; rintro e w' ⟨rfl, rfl⟩)
                go_roundg (s.size - (pos + n))
                case rel => exact ⟨pos + n, r, by omega, rfl, rfl, Lib.hid (HS.out.2 hn0 hf)⟩
                case measure => omega
              · have hf : P.fol b r = false := by simpa using hf
                go_wp2_with (go_at_call 71; refine (follows_any _ _ _).mono ?_; rintro e w' ⟨rfl, rfl⟩)
                try rw [Exit.noGoto_ret]
                go_ret
                exact ⟨by rw [HF.out (by rw [HNE.out]; exact HS.out.1 (Or.inr hf))]; rfl, hb.alloc hbs _⟩
          · have hnx := fun ty => run_next_end (P := Try.prog) wo s pos ty hp
            rw [validR_end s pos b (by omega)] at hv
            by_cases hf : P.fol b 46 = true
            · go_wp2_with (go_at_call 71; refine (follows_any _ _ _).mono ?_; rintro e w' ⟨rfl, rfl⟩)
              go_roundg (ss.length - (k + 1))
              case rel => exact ⟨k + 1, by omega, by go_num, by go_num, Lib.hid (HN.out (by rw [HNE.out, hv.out, hf])), hbi⟩
              case measure => omega
            · have hf : P.fol b 46 = false := by simpa using hf
              go_wp2_with (go_at_call 71; refine (follows_any _ _ _).mono ?_; rintro e w' ⟨rfl, rfl⟩)
              try rw [Exit.noGoto_ret]
              go_ret
              exact ⟨by rw [HF.out (by rw [HNE.out, hv.out, hf])]; rfl, hbi⟩
    · obtain rfl : k = ss.length := by omega
      go_wp2
      try rw [Exit.noGoto_ret]
      go_ret
      exact ⟨by rw [all_true ss (fun j h => hn.out j h h)]; simp, hb⟩
theorem fol_bound (b r : Int) (h : P.fol b r = true) : r ≤ 591 ∧ r ≠ 215 ∧ (192 ≤ r → P.letB r = true) := by
  unfold P.fol P.letB P.digB at h
  unfold P.letB
  split at h
  · simp; omega
  · split at h
    · simp; omega
    · simp at h ⊢; omega
end Go.Proofs.Ytlceeeajhejedaa.Lab
