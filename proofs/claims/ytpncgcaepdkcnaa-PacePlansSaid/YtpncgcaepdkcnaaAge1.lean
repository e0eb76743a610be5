/- Of stage 03: what rclamp_any, clamp_any, old_any, later_any, P.clamp_ge, P.clamp_le, P.clamp_id, P.plus_ge, P.plus_le, P.later_one leans on (part 1). -/
import Derived.Test.YtpncgcaepdkcnaaProg
import Derived.WalkKit
import Derived.Handy
import Derived.WalkSpells
import Derived.WalkLawsBesides
import Derived.WalkSmall
import Derived.Lib.Hide
import Derived.Below
import Derived.Deep.Light
import Derived.Deep.LoopGhost
import Derived.Deep.QuietTactic
import Derived.BigQuiet
import Derived.ProofKit
set_option linter.unusedSimpArgs false
set_option linter.unusedVariables false
namespace Go.Proofs.Ytpncgcaepdkcnaa.R3.P
/-- The tick that a number counts as. -/
def clamp (t : Int) : Int := if t < 0 then 0 else if 1073741824 < t then 1073741824 else t
def plus (t n : Int) : Int := clamp (t + clamp n)
def later (t : Int) (l : List Int) : Int := l.foldl plus (clamp t)
def old (s a n : Int) : Bool := decide (plus (clamp s) a ≤ clamp n)
/-- The first least one of the ticks, 'k' being the next one's place, 'at' and 't' what was found till now. -/
def firstF : Nat → Int → Int → List Int → Int × Int
  | _, at_, t, [] => (at_, t)
  | k, at_, t, x :: l => if at_ < 0 ∨ clamp x < t then firstF (k + 1) k (clamp x) l else firstF (k + 1) at_ t l
def first (l : List Int) : Int × Int := firstF 0 (-1) 0 l
theorem clamp_ge (t : Int) : 0 ≤ clamp t := by unfold clamp; split <;> (try split) <;> omega
theorem clamp_le (t : Int) : clamp t ≤ 1073741824 := by unfold clamp; split <;> (try split) <;> omega
theorem clamp_id (t : Int) (h : 0 ≤ t) (h2 : t ≤ 1073741824) : clamp t = t := by unfold clamp; split <;> (try split) <;> omega
theorem clamp_clamp (t : Int) : clamp (clamp t) = clamp t := clamp_id _ (clamp_ge t) (clamp_le t)
theorem plus_ge (t n : Int) : 0 ≤ plus t n := clamp_ge _
theorem plus_le (t n : Int) : plus t n ≤ 1073741824 := clamp_le _
theorem later_one (t n : Int) : later t [n] = plus (clamp t) n := rfl
theorem drop_at (l : List Int) (k : Nat) (x : Int) (h : l[k]? = some x) : l.drop k = x :: l.drop (k + 1) := by
  obtain ⟨h1, h2⟩ := List.getElem?_eq_some_iff.1 h
  rw [List.drop_eq_getElem_cons h1, h2]
end Go.Proofs.Ytpncgcaepdkcnaa.R3.P
namespace Go.Proofs.Ytpncgcaepdkcnaa.R3
open Go.RowKit
theorem ret_i64 {a b : Int} (h : a = b) : Ending.returned (.int .i64 a) = Ending.returned (.int .i64 b) := by rw [h]
theorem ret_bo {a b : Bool} (h : a = b) : Ending.returned (.bool a) = Ending.returned (.bool b) := by rw [h]
theorem tickOf_any (t : Int) (w : World) : Calls Try.prog 24 #[.int .i64 t] w fun e w' => e = .returned (.int .i64 (P.clamp t)) ∧ w' = w := by
  go_enter Try.func24, Try.ntmps24
  go_wp2_with fail
  all_goals
    go_ret
    refine ⟨ret_i64 ?_, rfl⟩
    unfold P.clamp
    repeat' split
    all_goals (first | omega | (split at * <;> omega))
theorem plus_any (t n : Int) (w : World) (h0 : 0 ≤ t) (h1 : t ≤ 1073741824) (h2 : 0 ≤ n) (h3 : n ≤ 1073741824) : Calls Try.prog 25 #[.int .i64 t, .int .i64 n] w fun e w' => e = .returned (.int .i64 (P.plus t n)) ∧ w' = w := by
  have hn := P.clamp_id n h2 h3
  go_enter Try.func25, Try.ntmps25
  go_wp2_with fail
  all_goals
    go_ret
    refine ⟨ret_i64 ?_, rfl⟩
    unfold P.plus
    rw [hn]
    unfold P.clamp
    repeat' split
    all_goals omega
theorem clamp_any (t : Int) (w : World) : Calls Try.prog 22 #[.int .i64 t] w fun e w' => e = .returned (.int .i64 (P.clamp t)) ∧ w' = w := by
  go_enter Try.func22, Try.ntmps22
  go_wp2_with fail
  refine (tickOf_any t _).mono ?_
  rintro e w1 ⟨rfl, rfl⟩
  go_wp2_with fail
  go_ret
  exact ⟨rfl, rfl⟩
theorem rclamp_any (t : Int) (w : World) : Calls Try.prog 8 #[.int .i64 t] w fun e w' => e = .returned (.int .i64 (P.clamp t)) ∧ w' = w := by
  have h : (t < 0 ∧ P.clamp t = 0) ∨ (¬ t < 0 ∧ 1073741824 < t ∧ P.clamp t = 1073741824) ∨ (¬ t < 0 ∧ ¬ 1073741824 < t ∧ P.clamp t = t) := by
    unfold P.clamp
    repeat' split
    all_goals omega
  rcases h with ⟨h, h3⟩ | ⟨h, h2, h3⟩ | ⟨h, h2, h3⟩
  all_goals
    go_enter Try.func8, Try.ntmps8
    go_wp2_with fail
    go_ret
    exact ⟨ret_i64 (by first | rfl | rw [h3]), rfl⟩
theorem old_any (s a n : Int) (w : World) : Calls Try.prog 19 #[.int .i64 s, .int .i64 a, .int .i64 n] w fun e w' => e = .returned (.bool (P.old s a n)) ∧ w' = w := by
  have HP := Lib.hid (show P.plus (P.clamp s) (P.clamp a) = P.plus (P.clamp s) a by unfold P.plus; rw [P.clamp_clamp])
  go_enter Try.func19, Try.ntmps19
  go_wp2_with fail
  refine (tickOf_any n _).mono ?_
  rintro e w1 ⟨rfl, rfl⟩
  go_wp2_with fail
  refine (tickOf_any s _).mono ?_
  rintro e w1 ⟨rfl, rfl⟩
  go_wp2_with fail
  refine (tickOf_any a _).mono ?_
  rintro e w1 ⟨rfl, rfl⟩
  go_wp2_with fail
  refine (plus_any _ _ _ (P.clamp_ge s) (P.clamp_le s) (P.clamp_ge a) (P.clamp_le a)).mono ?_
  rw [HP.out]
  rintro e w1 ⟨rfl, rfl⟩
  go_wp2_with fail
  go_ret
  exact ⟨ret_bo (by unfold P.old; simp), rfl⟩
/-- Numbers that lie in a row. -/
def IntsAt (w : World) (b o : Nat) (l : List Int) : Prop := ∀ j x, l[j]? = some x → w.cell? ⟨b, o + j, none⟩ = some (.int .i64 x)
/-- A row of numbers, wherever it lies; nothing is asked of an empty one's address. -/
def RowI (w : World) (a : Option Addr) (l : List Int) : Prop := 0 < l.length → ∃ b o, a = some ⟨b, o, none⟩ ∧ b < w.heap.size ∧ IntsAt w b o l
set_option maxHeartbeats 4000000 in
set_option maxRecDepth 1000000 in
theorem later_any (t : Int) (l : List Int) (a : Option Addr) (c : Nat) (w : World) (hl : l.length ≤ 100000) (hA : RowI w a l) :
    Calls Try.prog 18 #[.int .i64 t, .slice a l.length c] w fun e w' => e = .returned (.int .i64 (P.later t l)) ∧ w' = w := by
  have HA := Lib.hid hA
  clear hA
  go_enter Try.func18, Try.ntmps18
  go_wp2_with fail
  refine (tickOf_any t _).mono ?_
  rintro e w ⟨rfl, rfl⟩
  go_wp2_with fail
  go_loopw [5, 12] (fun u5 i wr => ∃ (k : Nat) (s : Int), i = .int .i64 k ∧ k ≤ l.length ∧ wr = w ∧ u5 = .int .i64 s ∧ 0 ≤ s ∧ s ≤ 1073741824 ∧ Hid ((l.drop k).foldl P.plus s = P.later t l)) (fun _ i _ => l.length - (intOf i).toNat)
  case atStart => exact ⟨0, _, rfl, by omega, rfl, rfl, P.clamp_ge t, P.clamp_le t, Lib.hid rfl⟩
  case round =>
    obtain ⟨k, s, rfl, hk, rfl, rfl, hs0, hs1, HF⟩ := hrel
    by_cases hlt : k < l.length
    · obtain ⟨b, o, rfl, hb, hat⟩ := HA.out (by omega)
      obtain ⟨x, hx⟩ : ∃ x, l[k]? = some x := ⟨_, List.getElem?_eq_getElem hlt⟩
      have hc := hat k x hx
      have HX := Lib.hid hx
      clear hat hx
      go_wp2_with fail
      refine (tickOf_any x _).mono ?_
      rintro e w ⟨rfl, rfl⟩
      go_wp2_with fail
      refine (plus_any s _ _ hs0 hs1 (P.clamp_ge x) (P.clamp_le x)).mono ?_
      rw [show P.plus s (P.clamp x) = P.plus s x by unfold P.plus; rw [P.clamp_clamp]]
      rintro e w ⟨rfl, rfl⟩
      go_wp2_with fail
      go_roundw
      case rel =>
        refine ⟨k + 1, _, by go_num, by omega, by trivial, rfl, P.plus_ge s x, P.plus_le s x, Lib.hid ?_⟩
        rw [← HF.out, P.drop_at l k x HX.out]
        rfl
      case measure => simp [intOf]; omega
    · obtain rfl : k = l.length := by omega
      have h := HF.out
      rw [List.drop_length] at h
      have H2 := Lib.hid (show s = P.later t l from h)
      clear h
      go_wp2_with fail
      go_ret
      exact ⟨ret_i64 H2.out, rfl⟩
end Go.Proofs.Ytpncgcaepdkcnaa.R3
