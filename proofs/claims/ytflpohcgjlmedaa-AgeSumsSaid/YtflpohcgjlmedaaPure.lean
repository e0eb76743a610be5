/- PLAIN LEAN for layer 3: ticks. -/
namespace Go.Proofs.Ytflpohcgjlmedaa.P

/-- The tick that a number counts as. -/
def clamp (t : Int) : Int := if t < 0 then 0 else if 1073741824 < t then 1073741824 else t
def plus (t n : Int) : Int := clamp (t + clamp n)
def later (t : Int) (l : List Int) : Int := l.foldl plus (clamp t)
def gap (t s : Int) : Int := if t - s < 0 then 0 else t - s
def gone (s n : Int) : Int := gap (clamp n) (clamp s)
def old (s a n : Int) : Bool := decide (plus (clamp s) a ≤ clamp n)
/-- The first least one of the ticks, 'k' being the next one's place, 'at' and 't' what was found till now. -/
def firstF : Nat → Int → Int → List Int → Int × Int
  | _, at_, t, [] => (at_, t)
  | k, at_, t, x :: l => if at_ < 0 ∨ clamp x < t then firstF (k + 1) k (clamp x) l else firstF (k + 1) at_ t l
def first (l : List Int) : Int × Int := firstF 0 (-1) 0 l

theorem clamp_ge (t : Int) : 0 ≤ clamp t := by unfold clamp; split <;> (try split) <;> omega
theorem clamp_le (t : Int) : clamp t ≤ 1073741824 := by unfold clamp; split <;> (try split) <;> omega
theorem clamp_id (t : Int) (h : 0 ≤ t) (h2 : t ≤ 1073741824) : clamp t = t := by unfold clamp; split <;> (try split) <;> omega
theorem clamp_clamp (t : Int) : clamp (clamp t) = clamp t := clamp_id _ (clamp_ge t) (clamp_le t)
theorem plus_ge (t n : Int) : 0 ≤ plus t n := clamp_ge _
theorem plus_le (t n : Int) : plus t n ≤ 1073741824 := clamp_le _
theorem foldl_ge : ∀ (l : List Int) (t : Int), 0 ≤ t → t ≤ 1073741824 → 0 ≤ l.foldl plus t ∧ l.foldl plus t ≤ 1073741824
  | [], t, h, h2 => ⟨h, h2⟩
  | x :: l, t, h, h2 => foldl_ge l _ (plus_ge t x) (plus_le t x)
theorem later_ge (t : Int) (l : List Int) : 0 ≤ later t l := (foldl_ge l _ (clamp_ge t) (clamp_le t)).1
theorem later_le (t : Int) (l : List Int) : later t l ≤ 1073741824 := (foldl_ge l _ (clamp_ge t) (clamp_le t)).2
theorem later_one (t n : Int) : later t [n] = plus (clamp t) n := rfl
theorem firstF_nought : ∀ (l : List Int) (k : Nat) (a : Int), 0 ≤ a → firstF k a 0 l = (a, 0)
  | [], k, a, h => rfl
  | x :: l, k, a, h => by
    rw [firstF, if_neg (by have := clamp_ge x; omega)]
    exact firstF_nought l _ a h
theorem drop_at (l : List Int) (k : Nat) (x : Int) (h : l[k]? = some x) : l.drop k = x :: l.drop (k + 1) := by
  obtain ⟨h1, h2⟩ := List.getElem?_eq_some_iff.1 h
  rw [List.drop_eq_getElem_cons h1, h2]
theorem take_at (l : List Int) (k : Nat) (x : Int) (h : l[k]? = some x) : l.take (k + 1) = l.take k ++ [x] := by
  rw [List.take_add_one, h]; rfl
theorem firstF_bounds : ∀ (l : List Int) (k : Nat) (a t : Int), a < k → -1 ≤ a → 0 ≤ t → t ≤ 1073741824 → -1 ≤ (firstF k a t l).1 ∧ (firstF k a t l).1 < k + l.length ∧ 0 ≤ (firstF k a t l).2 ∧ (firstF k a t l).2 ≤ 1073741824
  | [], k, a, t, h, h0, h1, h2 => ⟨h0, by simp [firstF]; omega, h1, h2⟩
  | x :: l, k, a, t, h, h0, h1, h2 => by
    rw [firstF, List.length_cons]
    split
    · have := firstF_bounds l (k + 1) k (clamp x) (by omega) (by omega) (clamp_ge x) (clamp_le x)
      omega
    · have := firstF_bounds l (k + 1) a t (by omega) h0 h1 h2
      omega
end Go.Proofs.Ytflpohcgjlmedaa.P
