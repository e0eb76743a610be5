/- PLAIN LEAN for layer 3: what follows. -/
import Derived.Test.YtflpohcgjlmedaaPure
namespace Go.Proofs.Ytflpohcgjlmedaa.P
theorem old_iff (s a n : Int) : old s a n = true ↔ plus (clamp s) a ≤ clamp n := by unfold old; simp
theorem stays1 (s n w m : Int) (h : old s n w = true) : old s n (later w [m]) = true := by
  rw [old_iff] at *
  rw [later_one]
  simp only [plus, clamp] at *
  omega
theorem stays2 (s n w m : Int) (h : old s (later n [m]) w = true) : old s n w = true := by
  rw [old_iff] at *
  rw [later_one] at h
  simp only [plus, clamp] at *
  omega
theorem stays3 (s n w m : Int) (h : old (later s [m]) n w = true) : old s n w = true := by
  rw [old_iff] at *
  rw [later_one] at h
  simp only [plus, clamp] at *
  omega
theorem stays4 (s : Int) : old s 0 s = true := by
  rw [old_iff]
  simp only [plus, clamp]
  omega
theorem stays5 (w m : Int) : clamp w ≤ later w [m] := by
  rw [later_one]
  simp only [plus, clamp]
  omega
theorem later_two (t n m : Int) : later t [n, m] = plus (plus (clamp t) n) m := rfl
theorem sums1 (t n m : Int) : later (later t [n]) [m] = later t [n, m] := by
  rw [later_two, later_one, later_one]
  simp only [plus, clamp]
  omega
theorem sums2 (t n m : Int) : later t [later n [m]] = later t [n, m] := by
  rw [later_two, later_one, later_one]
  simp only [plus, clamp]
  omega
theorem sums3 (t n m : Int) : later t [m, n] = later t [n, m] := by
  rw [later_two, later_two]
  simp only [plus, clamp]
  omega
theorem sums4 (t n m : Int) : gone t (later t [n, m]) = later n [m] ∨ later t [n, m] = 1073741824 := by
  rw [later_two, later_one]
  simp only [gone, gap, plus, clamp]
  omega
theorem sums5 (t n m : Int) : gone t (later t [n, m]) ≤ later n [m] := by
  rw [later_two, later_one]
  simp only [gone, gap, plus, clamp]
  omega
theorem sums6 (t n m : Int) : gone (later t [n, m]) t = 0 := by
  rw [later_two]
  simp only [gone, gap, plus, clamp]
  omega
theorem gone1 (s n w : Int) (h : 1073741824 ≤ clamp w) : old s n w = true := by
  rw [old_iff]
  have := plus_le (clamp s) n
  omega
theorem gone2 (s n w : Int) (h : ¬ 1073741824 ≤ clamp w) : old s n w = (decide (clamp s ≤ clamp w) && decide (clamp n ≤ gone s w)) := by
  rw [Bool.eq_iff_iff, old_iff]
  simp only [Bool.and_eq_true, decide_eq_true_eq]
  simp only [gone, gap, plus, clamp] at *
  omega
theorem gone3 (s w : Int) : gone s w ≤ clamp w := by
  simp only [gone, gap, clamp]
  omega

/-- What is found first. -/
theorem firstF_spec : ∀ (l : List Int) (k : Nat) (a t : Int), 0 ≤ a → a < k →
    ((firstF k a t l = (a, t) ∧ ∀ x ∈ l, t ≤ clamp x) ∨ ∃ i x, l[i]? = some x ∧ firstF k a t l = (((k + i : Nat) : Int), clamp x) ∧ clamp x < t ∧ ∀ j y, l[j]? = some y → clamp x ≤ clamp y ∧ (j < i → clamp x < clamp y))
  | [], k, a, t, h, h2 => .inl ⟨rfl, by simp⟩
  | x :: l, k, a, t, h, h2 => by
    rw [firstF]
    split
    · rename_i hc
      right
      rcases firstF_spec l (k + 1) k (clamp x) (by omega) (by omega) with ⟨h3, h4⟩ | ⟨i, y, h3, h4, h5, h6⟩
      · refine ⟨0, x, rfl, by rw [h3]; rfl, by omega, fun j y hy => ?_⟩
        cases j with
        | zero => simp at hy; subst hy; exact ⟨by omega, by omega⟩
        | succ j => exact ⟨h4 y (List.mem_of_getElem? (by simpa using hy)), by omega⟩
      · refine ⟨i + 1, y, by simpa using h3, by rw [h4]; congr 2; omega, by omega, fun j z hz => ?_⟩
        cases j with
        | zero => simp at hz; subst hz; exact ⟨by omega, by omega⟩
        | succ j =>
          have := h6 j z (by simpa using hz)
          exact ⟨this.1, fun hj => this.2 (by omega)⟩
    · rename_i hc
      rcases firstF_spec l (k + 1) a t h (by omega) with ⟨h3, h4⟩ | ⟨i, y, h3, h4, h5, h6⟩
      · left
        refine ⟨h3, fun y hy => ?_⟩
        rcases List.mem_cons.1 hy with rfl | hy
        · omega
        · exact h4 y hy
      · right
        refine ⟨i + 1, y, by simpa using h3, by rw [h4]; congr 2; omega, h5, fun j z hz => ?_⟩
        cases j with
        | zero => simp at hz; subst hz; exact ⟨by omega, by omega⟩
        | succ j =>
          have := h6 j z (by simpa using hz)
          exact ⟨this.1, fun hj => this.2 (by omega)⟩
theorem first_spec (l : List Int) (h : 0 < l.length) : ∃ (i : Nat) (x : Int), l[i]? = some x ∧ first l = ((i : Int), clamp x) ∧ ∀ j y, l[j]? = some y → clamp x ≤ clamp y ∧ (j < i → clamp x < clamp y) := by
  cases l with
  | nil => simp at h
  | cons x l =>
    unfold first
    rw [firstF, if_pos (by omega)]
    rcases firstF_spec l 1 0 (clamp x) (by omega) (by omega) with ⟨h3, h4⟩ | ⟨i, y, h3, h4, h5, h6⟩
    · refine ⟨0, x, rfl, h3, fun j y hy => ?_⟩
      cases j with
      | zero => simp at hy; subst hy; exact ⟨by omega, by omega⟩
      | succ j => exact ⟨h4 y (List.mem_of_getElem? (by simpa using hy)), by omega⟩
    · refine ⟨i + 1, y, by simpa using h3, by rw [show ((0 : Nat) : Int) = 0 from rfl, h4]; congr 2; omega, fun j z hz => ?_⟩
      cases j with
      | zero => simp at hz; subst hz; exact ⟨by omega, by omega⟩
      | succ j =>
        have := h6 j z (by simpa using hz)
        exact ⟨this.1, fun hj => this.2 (by omega)⟩
end Go.Proofs.Ytflpohcgjlmedaa.P
