/- Of stage 03: what clamp_any, rclamp_any, later_any, rlater_any, first_any, rfirst_any, P.clamp_ge, P.clamp_le, P.clamp_id, P.first leans on (part 1). -/
import Derived.Test.YtaealoodchkeaaaProg
import Derived.WalkKit
import Derived.Handy
import Derived.WalkSpells
import Derived.WalkLawsBesides
import Derived.WalkSmall
import Derived.Lib.Hide
import Derived.Below
import Derived.Deep.Light
import Derived.Deep.LoopGhost
import Derived.Deep.QuietTactic
import Derived.BigQuiet
import Derived.ProofKit
set_option linter.unusedSimpArgs false
set_option linter.unusedVariables false
namespace Go.Proofs.Ytaealoodchkeaaa.R3.P
/-- The tick that a number counts as. -/
def clamp (t : Int) : Int := if t < 0 then 0 else if 1073741824 < t then 1073741824 else t
def plus (t n : Int) : Int := clamp (t + clamp n)
def later (t : Int) (l : List Int) : Int := l.foldl plus (clamp t)
/-- The first least one of the ticks, 'k' being the next one's place, 'at' and 't' what was found till now. -/
def firstF : Nat → Int → Int → List Int → Int × Int
  | _, at_, t, [] => (at_, t)
  | k, at_, t, x :: l => if at_ < 0 ∨ clamp x < t then firstF (k + 1) k (clamp x) l else firstF (k + 1) at_ t l
def first (l : List Int) : Int × Int := firstF 0 (-1) 0 l
theorem clamp_ge (t : Int) : 0 ≤ clamp t := by unfold clamp; split <;> (try split) <;> omega
theorem clamp_le (t : Int) : clamp t ≤ 1073741824 := by unfold clamp; split <;> (try split) <;> omega
theorem clamp_id (t : Int) (h : 0 ≤ t) (h2 : t ≤ 1073741824) : clamp t = t := by unfold clamp; split <;> (try split) <;> omega
theorem clamp_clamp (t : Int) : clamp (clamp t) = clamp t := clamp_id _ (clamp_ge t) (clamp_le t)
theorem plus_ge (t n : Int) : 0 ≤ plus t n := clamp_ge _
theorem plus_le (t n : Int) : plus t n ≤ 1073741824 := clamp_le _
theorem firstF_nought : ∀ (l : List Int) (k : Nat) (a : Int), 0 ≤ a → firstF k a 0 l = (a, 0)
  | [], k, a, h => rfl
  | x :: l, k, a, h => by
    rw [firstF, if_neg (by have := clamp_ge x; omega)]
    exact firstF_nought l _ a h
theorem drop_at (l : List Int) (k : Nat) (x : Int) (h : l[k]? = some x) : l.drop k = x :: l.drop (k + 1) := by
  obtain ⟨h1, h2⟩ := List.getElem?_eq_some_iff.1 h
  rw [List.drop_eq_getElem_cons h1, h2]
end Go.Proofs.Ytaealoodchkeaaa.R3.P
namespace Go.Proofs.Ytaealoodchkeaaa.R3
open Go.RowKit
theorem ret_i64 {a b : Int} (h : a = b) : Ending.returned (.int .i64 a) = Ending.returned (.int .i64 b) := by rw [h]
theorem tickOf_any (t : Int) (w : World) : Calls Try.prog 40 #[.int .i64 t] w fun e w' => e = .returned (.int .i64 (P.clamp t)) ∧ w' = w := by
  go_enter Try.func40, Try.ntmps40
  go_wp2_with fail
  all_goals
    go_ret
    refine ⟨ret_i64 ?_, rfl⟩
    unfold P.clamp
    repeat' split
    all_goals (first | omega | (split at * <;> omega))
theorem plus_any (t n : Int) (w : World) (h0 : 0 ≤ t) (h1 : t ≤ 1073741824) (h2 : 0 ≤ n) (h3 : n ≤ 1073741824) : Calls Try.prog 41 #[.int .i64 t, .int .i64 n] w fun e w' => e = .returned (.int .i64 (P.plus t n)) ∧ w' = w := by
  have hn := P.clamp_id n h2 h3
  go_enter Try.func41, Try.ntmps41
  go_wp2_with fail
  all_goals
    go_ret
    refine ⟨ret_i64 ?_, rfl⟩
    unfold P.plus
    rw [hn]
    unfold P.clamp
    repeat' split
    all_goals omega
theorem clamp_any (t : Int) (w : World) : Calls Try.prog 39 #[.int .i64 t] w fun e w' => e = .returned (.int .i64 (P.clamp t)) ∧ w' = w := by
  go_enter Try.func39, Try.ntmps39
  go_wp2_with fail
  refine (tickOf_any t _).mono ?_
  rintro e w1 ⟨rfl, rfl⟩
  go_wp2_with fail
  go_ret
  exact ⟨rfl, rfl⟩
theorem rclamp_any (t : Int) (w : World) : Calls Try.prog 23 #[.int .i64 t] w fun e w' => e = .returned (.int .i64 (P.clamp t)) ∧ w' = w := by
  have h : (t < 0 ∧ P.clamp t = 0) ∨ (¬ t < 0 ∧ 1073741824 < t ∧ P.clamp t = 1073741824) ∨ (¬ t < 0 ∧ ¬ 1073741824 < t ∧ P.clamp t = t) := by
    unfold P.clamp
    repeat' split
    all_goals omega
  rcases h with ⟨h, h3⟩ | ⟨h, h2, h3⟩ | ⟨h, h2, h3⟩
  all_goals
    go_enter Try.func23, Try.ntmps23
    go_wp2_with fail
    go_ret
    exact ⟨ret_i64 (by first | rfl | rw [h3]), rfl⟩
/-- Numbers that lie in a row. -/
def IntsAt (w : World) (b o : Nat) (l : List Int) : Prop := ∀ j x, l[j]? = some x → w.cell? ⟨b, o + j, none⟩ = some (.int .i64 x)
theorem IntsAt.below {w w' : World} {b o : Nat} {l : List Int} (h : IntsAt w b o l) (hb : Below w.heap.size w w') (hlt : b < w.heap.size) : IntsAt w' b o l := fun j x hx => by
  rw [hb.cell (p := ⟨b, o + j, none⟩) hlt]; exact h j x hx
/-- A row of numbers, wherever it lies; nothing is asked of an empty one's address. -/
def RowI (w : World) (a : Option Addr) (l : List Int) : Prop := 0 < l.length → ∃ b o, a = some ⟨b, o, none⟩ ∧ b < w.heap.size ∧ IntsAt w b o l
theorem RowI.below {w w' : World} {a : Option Addr} {l : List Int} (h : RowI w a l) (hb : Below w.heap.size w w') : RowI w' a l := fun hl => by
  obtain ⟨b, o, h1, h2, h3⟩ := h hl
  exact ⟨b, o, h1, Nat.lt_of_lt_of_le h2 hb.size, h3.below hb h2⟩
set_option maxHeartbeats 4000000 in
set_option maxRecDepth 1000000 in
theorem later_any (t : Int) (l : List Int) (a : Option Addr) (c : Nat) (w : World) (hl : l.length ≤ 100000) (hA : RowI w a l) :
    Calls Try.prog 31 #[.int .i64 t, .slice a l.length c] w fun e w' => e = .returned (.int .i64 (P.later t l)) ∧ w' = w := by
  have HA := Lib.hid hA
  clear hA
  go_enter Try.func31, Try.ntmps31
  go_wp2_with fail
  refine (tickOf_any t _).mono ?_
  rintro e w ⟨rfl, rfl⟩
  go_wp2_with fail
  go_loopw [5, 12] (fun u5 i wr => ∃ (k : Nat) (s : Int), i = .int .i64 k ∧ k ≤ l.length ∧ wr = w ∧ u5 = .int .i64 s ∧ 0 ≤ s ∧ s ≤ 1073741824 ∧ Hid ((l.drop k).foldl P.plus s = P.later t l)) (fun _ i _ => l.length - (intOf i).toNat)
  case atStart => exact ⟨0, _, rfl, by omega, rfl, rfl, P.clamp_ge t, P.clamp_le t, Lib.hid rfl⟩
  case round =>
    obtain ⟨k, s, rfl, hk, rfl, rfl, hs0, hs1, HF⟩ := hrel
    by_cases hlt : k < l.length
    · obtain ⟨b, o, rfl, hb, hat⟩ := HA.out (by omega)
      obtain ⟨x, hx⟩ : ∃ x, l[k]? = some x := ⟨_, List.getElem?_eq_getElem hlt⟩
      have hc := hat k x hx
      have HX := Lib.hid hx
      clear hat hx
      go_wp2_with fail
      refine (tickOf_any x _).mono ?_
      rintro e w ⟨rfl, rfl⟩
      go_wp2_with fail
      refine (plus_any s _ _ hs0 hs1 (P.clamp_ge x) (P.clamp_le x)).mono ?_
      rw [show P.plus s (P.clamp x) = P.plus s x by unfold P.plus; rw [P.clamp_clamp]]
      rintro e w ⟨rfl, rfl⟩
      go_wp2_with fail
      go_roundw
      case rel =>
        refine ⟨k + 1, _, by go_num, by omega, by trivial, rfl, P.plus_ge s x, P.plus_le s x, Lib.hid ?_⟩
        rw [← HF.out, P.drop_at l k x HX.out]
        rfl
      case measure => simp [intOf]; omega
    · obtain rfl : k = l.length := by omega
      have h := HF.out
      rw [List.drop_length] at h
      have H2 := Lib.hid (show s = P.later t l from h)
      clear h
      go_wp2_with fail
      go_ret
      exact ⟨ret_i64 H2.out, rfl⟩
set_option maxHeartbeats 4000000 in
set_option maxRecDepth 1000000 in
theorem rlater_any (t : Int) (l : List Int) (a : Option Addr) (c : Nat) (w : World) (hl : l.length ≤ 100000) (hA : RowI w a l) :
    Calls Try.prog 32 #[.int .i64 t, .slice a l.length c] w fun e w' => e = .returned (.int .i64 (P.later t l)) ∧ w' = w := by
  have HA := Lib.hid hA
  clear hA
  go_enter Try.func32, Try.ntmps32
  go_wp2_with fail
  refine (rclamp_any t _).mono ?_
  rintro e w ⟨rfl, rfl⟩
  go_wp2_with fail
  go_loopw [0, 5] (fun u5 i wr => ∃ (k : Nat) (s : Int), i = .int .i64 k ∧ k ≤ l.length ∧ wr = w ∧ u5 = .int .i64 s ∧ 0 ≤ s ∧ s ≤ 1073741824 ∧ Hid ((l.drop k).foldl P.plus s = P.later t l)) (fun _ i _ => l.length - (intOf i).toNat)
  case atStart => exact ⟨0, _, rfl, by omega, rfl, rfl, P.clamp_ge t, P.clamp_le t, Lib.hid rfl⟩
  case round =>
    obtain ⟨k, s, rfl, hk, rfl, rfl, hs0, hs1, HF⟩ := hrel
    by_cases hlt : k < l.length
    · obtain ⟨b, o, rfl, hb, hat⟩ := HA.out (by omega)
      obtain ⟨x, hx⟩ : ∃ x, l[k]? = some x := ⟨_, List.getElem?_eq_getElem hlt⟩
      have hc := hat k x hx
      have HX := Lib.hid hx
      have c0 := P.clamp_ge x
      have c1 := P.clamp_le x
      clear hat hx
      go_wp2_with fail
      refine (rclamp_any x _).mono ?_
      rintro e w ⟨rfl, rfl⟩
      go_wp2_with fail
      refine (rclamp_any _ _).mono ?_
      rw [show P.clamp (s + P.clamp x) = P.plus s x from rfl]
      rintro e w ⟨rfl, rfl⟩
      go_wp2_with fail
      go_roundw
      case rel =>
        refine ⟨k + 1, _, by go_num, by omega, by trivial, rfl, P.plus_ge s x, P.plus_le s x, Lib.hid ?_⟩
        rw [← HF.out, P.drop_at l k x HX.out]
        rfl
      case measure => simp [intOf]; omega
    · obtain rfl : k = l.length := by omega
      have h := HF.out
      rw [List.drop_length] at h
      have H2 := Lib.hid (show s = P.later t l from h)
      clear h
      go_wp2_with fail
      go_ret
      exact ⟨ret_i64 H2.out, rfl⟩
theorem P.firstF_take (k : Nat) (a t x : Int) (l : List Int) (h : a < 0 ∨ P.clamp x < t) : P.firstF k a t (x :: l) = P.firstF (k + 1) k (P.clamp x) l := by rw [P.firstF, if_pos h]
theorem P.firstF_skip (k : Nat) (a t x : Int) (l : List Int) (h : ¬ (a < 0 ∨ P.clamp x < t)) : P.firstF k a t (x :: l) = P.firstF (k + 1) a t l := by rw [P.firstF, if_neg h]
set_option maxHeartbeats 4000000 in
set_option maxRecDepth 1000000 in
theorem first_any (l : List Int) (a : Option Addr) (c : Nat) (w : World) (hl : l.length ≤ 100000) (hA : RowI w a l) :
    Calls Try.prog 29 #[.slice a l.length c] w fun e w' => e = .returned (.tuple #[.int .i64 (P.first l).1, .int .i64 (P.first l).2]) ∧ Below w.heap.size w w' := by
  have HA := Lib.hid hA
  clear hA
  go_enter Try.func29, Try.ntmps29
  go_wp2_with fail
  go_step3
  go_wp2_with fail
  go_step3
  go_wp2_with fail
  go_loopw [2, 4, 10] (fun u2 u4 i wr => ∃ (k : Nat) (p t : Int), i = .int .i64 k ∧ k ≤ l.length ∧ Below w.heap.size w wr ∧ u2 = .int .i64 p ∧ u4 = .int .i64 t ∧ p < k ∧ -1 ≤ p ∧ 0 ≤ t ∧ t ≤ 1073741824 ∧ (p = -1 ∨ 0 < t) ∧ Hid (P.firstF k p t (l.drop k) = P.first l)) (fun _ _ i _ => l.length - (intOf i).toNat)
  case atStart => exact ⟨0, -1, 0, rfl, by omega, Below.refl _ _, rfl, rfl, by omega, by omega, by omega, by omega, .inl rfl, Lib.hid rfl⟩
  case round =>
    obtain ⟨k, p, t, rfl, hk, hbw, rfl, rfl, hp0, hp1, ht0, ht1, hpt, HF⟩ := hrel
    by_cases hlt : k < l.length
    · obtain ⟨b, o, rfl, hb, hat⟩ := (HA.out.below hbw) (by omega)
      obtain ⟨x, hx⟩ : ∃ x, l[k]? = some x := ⟨_, List.getElem?_eq_getElem hlt⟩
      have hc := hat k x hx
      have HX := Lib.hid (P.drop_at l k x hx)
      have c0 := P.clamp_ge x
      have c1 := P.clamp_le x
      clear hat hx
      go_wp2_with fail
      refine (tickOf_any x _).mono ?_
      rintro e wz ⟨rfl, hwz⟩
      subst wz
      by_cases h0 : P.clamp x = 0
      · have HR := Lib.hid (show P.first l = ((k : Int), (0 : Int)) by
          rw [← HF.out, HX.out, P.firstF_take _ _ _ _ _ (by omega), h0, P.firstF_nought _ _ _ (by omega)])
        rw [h0]
        clear h0
        go_wp2_with fail
        try rw [Exit.noGoto_ret]
        go_ret2
        exact ⟨by rw [HR.out]; rfl, hbw⟩
      · have h0 : (P.clamp x == 0) = false := by simpa using h0
        by_cases h1 : p = -1
        · have HR := Lib.hid (P.firstF_take k p t x (l.drop (k + 1)) (by omega))
          subst h1
          go_wp2_with fail
          go_roundw
          case rel => exact ⟨k + 1, k, P.clamp x, by go_num, by omega, hbw, rfl, rfl, by omega, by omega, by omega, by omega, .inr (by simp at h0; omega), Lib.hid (by rw [← HF.out, HX.out, HR.out])⟩
          case measure => simp [intOf]; omega
        · have h1 : (p == -1) = false := by simpa using h1
          by_cases h2 : P.clamp x < t
          · have HR := Lib.hid (P.firstF_take k p t x (l.drop (k + 1)) (by omega))
            go_wp2_with fail
            go_roundw
            case rel => exact ⟨k + 1, k, P.clamp x, by go_num, by omega, hbw, rfl, rfl, by omega, by omega, by omega, by omega, .inr (by simp at h0; omega), Lib.hid (by rw [← HF.out, HX.out, HR.out])⟩
            case measure => simp [intOf]; omega
          · have HR := Lib.hid (P.firstF_skip k p t x (l.drop (k + 1)) (by simp at h1; omega))
            go_wp2_with fail
            go_roundw
            case rel => exact ⟨k + 1, p, t, by go_num, by omega, hbw, rfl, rfl, by omega, by omega, by omega, by omega, hpt, Lib.hid (by rw [← HF.out, HX.out, HR.out])⟩
            case measure => simp [intOf]; omega
    · obtain rfl : k = l.length := by omega
      have h := HF.out
      rw [List.drop_length] at h
      have H2 := Lib.hid (show (p, t) = P.first l from h)
      clear h
      go_wp2_with fail
      try rw [Exit.noGoto_ret]
      go_ret2
      refine ⟨?_, hbw⟩
      rw [← H2.out]
      rfl
set_option maxHeartbeats 4000000 in
set_option maxRecDepth 1000000 in
theorem rfirst_any (l : List Int) (a : Option Addr) (c : Nat) (w : World) (hl : l.length ≤ 100000) (hA : RowI w a l) :
    Calls Try.prog 30 #[.slice a l.length c] w fun e w' => e = .returned (.tuple #[.int .i64 (P.first l).1, .int .i64 (P.first l).2]) ∧ Below w.heap.size w w' := by
  have HA := Lib.hid hA
  clear hA
  go_enter Try.func30, Try.ntmps30
  go_wp2_with fail
  go_loopw [4, 5, 6] (fun u2 u4 i wr => ∃ (k : Nat) (p t : Int), i = .int .i64 k ∧ k ≤ l.length ∧ Below w.heap.size w wr ∧ u2 = .int .i64 p ∧ u4 = .int .i64 t ∧ p < k ∧ -1 ≤ p ∧ 0 ≤ t ∧ t ≤ 1073741824 ∧ Hid (P.firstF k p t (l.drop k) = P.first l)) (fun _ _ i _ => l.length - (intOf i).toNat)
  case atStart => exact ⟨0, -1, 0, rfl, by omega, Below.refl _ _, rfl, rfl, by omega, by omega, by omega, by omega, Lib.hid rfl⟩
  case round =>
    obtain ⟨k, p, t, rfl, hk, hbw, rfl, rfl, hp0, hp1, ht0, ht1, HF⟩ := hrel
    by_cases hlt : k < l.length
    · obtain ⟨b, o, rfl, hb, hat⟩ := (HA.out.below hbw) (by omega)
      obtain ⟨x, hx⟩ : ∃ x, l[k]? = some x := ⟨_, List.getElem?_eq_getElem hlt⟩
      have hc := hat k x hx
      have HX := Lib.hid (P.drop_at l k x hx)
      have c0 := P.clamp_ge x
      have c1 := P.clamp_le x
      clear hat hx
      by_cases h1 : p < 0
      · have HR := Lib.hid (P.firstF_take k p t x (l.drop (k + 1)) (by omega))
        go_wp2_with fail
        refine (rclamp_any x _).mono ?_
        rintro e wz ⟨rfl, hwz⟩
        subst wz
        go_wp2_with fail
        go_roundw
        case rel => exact ⟨k + 1, k, P.clamp x, by go_num, by omega, hbw, rfl, rfl, by omega, by omega, by omega, by omega, Lib.hid (by rw [← HF.out, HX.out, HR.out])⟩
        case measure => simp [intOf]; omega
      · by_cases h2 : P.clamp x < t
        · have HR := Lib.hid (P.firstF_take k p t x (l.drop (k + 1)) (by omega))
          go_wp2_with fail
          refine (rclamp_any x _).mono ?_
          rintro e wz ⟨rfl, hwz⟩
          subst wz
          go_wp2_with fail
          refine (rclamp_any x _).mono ?_
          rintro e wz ⟨rfl, hwz⟩
          subst wz
          go_wp2_with fail
          go_roundw
          case rel => exact ⟨k + 1, k, P.clamp x, by go_num, by omega, hbw, rfl, rfl, by omega, by omega, by omega, by omega, Lib.hid (by rw [← HF.out, HX.out, HR.out])⟩
          case measure => simp [intOf]; omega
        · have HR := Lib.hid (P.firstF_skip k p t x (l.drop (k + 1)) (by omega))
          go_wp2_with fail
          refine (rclamp_any x _).mono ?_
          rintro e wz ⟨rfl, hwz⟩
          subst wz
          go_wp2_with fail
          go_roundw
          case rel => exact ⟨k + 1, p, t, by go_num, by omega, hbw, rfl, rfl, by omega, by omega, by omega, by omega, Lib.hid (by rw [← HF.out, HX.out, HR.out])⟩
          case measure => simp [intOf]; omega
    · obtain rfl : k = l.length := by omega
      have h := HF.out
      rw [List.drop_length] at h
      have H2 := Lib.hid (show (p, t) = P.first l from h)
      clear h
      go_wp2_with fail
      go_ret2
      refine ⟨?_, hbw⟩
      rw [← H2.out]
      rfl
end Go.Proofs.Ytaealoodchkeaaa.R3
