/- PLAIN LEAN for layer 2: digits, groups, runs of noughts, texts of addresses. -/
import Derived.Test.YtbejnnkdgcelmaaGreatDoorMay
import Derived.Lib.Join
import Derived.Lib.ItoaNum
set_option linter.unusedSimpArgs false
set_option linter.unusedVariables false
namespace Go.Proofs.YtbejnnkdgcelmaaGreatDoor.P

def hexC (d : Nat) : UInt8 := if d < 10 then UInt8.ofNat (48 + d) else UInt8.ofNat (87 + d)
def hexF : Nat → Nat → List UInt8
  | 0, n => [hexC (n % 16)]
  | k + 1, n => if n < 16 then [hexC n] else hexF k (n / 16) ++ [hexC (n % 16)]
/-- The hexadecimal digits of a group. -/
def hexD (n : Nat) : List UInt8 := hexF 3 n
theorem hexF_small (k n : Nat) (h : n < 16) : hexF k n = [hexC n] := by
  cases k with
  | zero => rw [hexF, Nat.mod_eq_of_lt h]
  | succ k => rw [hexF, if_pos h]
theorem hexF_len : ∀ (k n : Nat), 1 ≤ (hexF k n).length ∧ (hexF k n).length ≤ k + 1
  | 0, n => by simp [hexF]
  | k + 1, n => by
    unfold hexF
    split
    · simp
    · have := hexF_len k (n / 16)
      simp; omega
theorem hexD_len (n : Nat) : 1 ≤ (hexD n).length ∧ (hexD n).length ≤ 4 := hexF_len 3 n

def tellG (gs : List Nat) : List UInt8 := Lib.join (gs.map hexD) [58]
def bytes4 (x y : Nat) : List (List UInt8) := [Lib.decDigits (x / 256), Lib.decDigits (x % 256), Lib.decDigits (y / 256), Lib.decDigits (y % 256)]
def tell4 (x y : Nat) : List UInt8 := Lib.join (bytes4 x y) [46]
/-- Where the first longest run of noughts begins and ends. -/
def runF : List Nat → Nat → Nat → Nat → Nat → Nat × Nat
  | [], _, _, f, t => (f, t)
  | g :: l, i, b, f, t => if g = 0 then (if 2 ≤ i + 1 - b ∧ t - f < i + 1 - b then runF l (i + 1) b b (i + 1) else runF l (i + 1) b f t) else runF l (i + 1) (i + 1) f t
def runP (gs : List Nat) : Nat × Nat := runF gs 0 0 0 0
def tell6 (gs : List Nat) : List UInt8 := if (runP gs).1 = (runP gs).2 then tellG gs else tellG (gs.take (runP gs).1) ++ (58 :: 58 :: tellG (gs.drop (runP gs).2))
def hostP (f : Int) (gs : List Nat) : List UInt8 := if f = 4 then tell4 (gs.getD 0 0) (gs.getD 1 0) else 91 :: (tell6 gs ++ [93])
end P
def Ad.ns (a : Ad) : List Nat := a.gs.map Int.toNat
namespace P
def textP (a : Ad) : List UInt8 := hostP a.f a.ns ++ 58 :: Lib.decDigits a.p.toNat

theorem runF_le : ∀ (l : List Nat) (i b f t : Nat), b ≤ i → f ≤ t → t ≤ i → (runF l i b f t).1 ≤ (runF l i b f t).2 ∧ (runF l i b f t).2 ≤ i + l.length
  | [], i, b, f, t, _, h2, h3 => by simp [runF]; omega
  | g :: l, i, b, f, t, h1, h2, h3 => by
    unfold runF
    split
    · split
      · have := runF_le l (i + 1) b b (i + 1) (by omega) (by omega) (by omega)
        simp only [List.length_cons]; omega
      · have := runF_le l (i + 1) b f t (by omega) (by omega) (by omega)
        simp only [List.length_cons]; omega
    · have := runF_le l (i + 1) (i + 1) f t (by omega) (by omega) (by omega)
      simp only [List.length_cons]; omega
theorem runP_le (gs : List Nat) : (runP gs).1 ≤ (runP gs).2 ∧ (runP gs).2 ≤ gs.length := by
  have := runF_le gs 0 0 0 0 (by omega) (by omega) (by omega)
  simpa [runP] using this
theorem tellG_len (gs : List Nat) : (tellG gs).length ≤ 5 * gs.length := by
  unfold tellG
  cases gs with
  | nil => simp [Lib.join_nil]
  | cons g gs =>
    rw [List.map_cons, Lib.join_cons]
    have h : ∀ gs : List Nat, (Lib.joinTail [58] (gs.map hexD)).length ≤ 5 * gs.length := by
      intro gs
      induction gs with
      | nil => simp [Lib.joinTail]
      | cons g gs ih =>
        have := hexD_len g
        simp only [Lib.joinTail, List.map_cons, List.flatten_cons, List.length_append, List.length_cons, List.length_nil] at ih ⊢
        omega
    have h1 := hexD_len g
    have h2 := h gs
    simp only [List.length_append, List.length_cons]; omega
theorem tell6_len (gs : List Nat) (h : gs.length = 8) : (tell6 gs).length ≤ 82 := by
  unfold tell6
  split
  · have := tellG_len gs; omega
  · have h1 := tellG_len (gs.take (runP gs).1)
    have h2 := tellG_len (gs.drop (runP gs).2)
    simp only [List.length_append, List.length_cons, List.length_take, List.length_drop] at h1 h2 ⊢
    omega
end Go.Proofs.YtbejnnkdgcelmaaGreatDoor.P
