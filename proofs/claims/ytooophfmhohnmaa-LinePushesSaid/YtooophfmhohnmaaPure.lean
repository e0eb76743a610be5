/- PLAIN LEAN for layer 4: rows of numbers. -/
namespace Go.Proofs.Ytooophfmhohnmaa.P

theorem drop_at (l : List Int) (k : Nat) (x : Int) (h : l[k]? = some x) : l.drop k = x :: l.drop (k + 1) := by
  obtain ⟨h1, h2⟩ := List.getElem?_eq_some_iff.1 h
  rw [List.drop_eq_getElem_cons h1, h2]
theorem take_at (l : List Int) (k : Nat) (x : Int) (h : l[k]? = some x) : l.take (k + 1) = l.take k ++ [x] := by
  rw [List.take_add_one, h]; rfl

/-- Where 'n' stands first. -/
def placeF (n : Int) : Nat → List Int → Int
  | _, [] => -1
  | k, x :: l => if x = n then k else placeF n (k + 1) l
def place (l : List Int) (n : Int) : Int := placeF n 0 l
theorem placeF_spec (n : Int) : ∀ (l : List Int) (k : Nat), (placeF n k l = -1 ∧ n ∉ l) ∨ (∃ i, i < l.length ∧ placeF n k l = ((k + i : Nat) : Int) ∧ l[i]? = some n ∧ (∀ j, j < i → l[j]? ≠ some n) ∧ l.erase n = l.take i ++ l.drop (i + 1))
  | [], k => .inl ⟨rfl, by simp⟩
  | x :: l, k => by
    by_cases h : x = n
    · refine .inr ⟨0, by simp, by rw [placeF, if_pos h]; simp, by simp [h], fun j hj => by omega, by simp [h]⟩
    · rcases placeF_spec n l (k + 1) with ⟨h1, h2⟩ | ⟨i, hi, h1, h2, h3, h4⟩
      · exact .inl ⟨by rw [placeF, if_neg h, h1], by simp [h2]; exact fun e => h e.symm⟩
      · refine .inr ⟨i + 1, by simpa using hi, by rw [placeF, if_neg h, h1]; omega, by simpa using h2, fun j hj => ?_, ?_⟩
        · cases j with
          | zero => simpa using h
          | succ j => simpa using h3 j (by omega)
        · rw [List.erase_cons_tail (by simpa using h), h4]; simp
theorem place_spec (l : List Int) (n : Int) : (place l n = -1 ∧ n ∉ l) ∨ (∃ i, i < l.length ∧ place l n = (i : Int) ∧ l[i]? = some n ∧ (∀ j, j < i → l[j]? ≠ some n) ∧ l.erase n = l.take i ++ l.drop (i + 1)) := by
  rcases placeF_spec n l 0 with h | ⟨i, h1, h2, h3⟩
  · exact .inl h
  · exact .inr ⟨i, h1, by rw [place, h2]; simp, h3⟩

/-- A row without the first one that is each of 'm'. -/
def less (l m : List Int) : List Int := m.foldl List.erase l
/-- The same, gone over once. -/
def keep : List Int → List Int → List Int
  | [], _ => []
  | x :: l, m => if x ∈ m then keep l (m.erase x) else x :: keep l m
theorem less_nil (m : List Int) : less [] m = [] := by
  induction m with
  | nil => rfl
  | cons y m ih => rw [less, List.foldl_cons]; simpa [less] using ih
theorem less_cons (x : Int) : ∀ (m l : List Int), less (x :: l) m = if x ∈ m then less l (m.erase x) else x :: less l m
  | [], l => by simp [less]
  | y :: m, l => by
    by_cases h : y = x
    · subst h; simp [less]
    · have e : less (x :: l) (y :: m) = less (x :: l.erase y) m := by
        rw [less, List.foldl_cons, List.erase_cons_tail (by simp; exact fun e => h e.symm)]; rfl
      rw [e, less_cons x m (l.erase y)]
      have h2 : x ∈ y :: m ↔ x ∈ m := by simp; intro e; exact absurd e.symm h
      by_cases hm : x ∈ m
      · rw [if_pos hm, if_pos (h2.2 hm), List.erase_cons_tail (by simpa using h)]; rfl
      · rw [if_neg hm, if_neg (fun h => hm (h2.1 h))]; rfl
theorem keep_less : ∀ (l m : List Int), keep l m = less l m
  | [], m => by rw [less_nil]; rfl
  | x :: l, m => by
    rw [keep, less_cons]
    split
    · exact keep_less l _
    · rw [keep_less l m]
theorem keep_none (l : List Int) : keep l [] = l := by rw [keep_less]; rfl
theorem keep_length (l m : List Int) : (keep l m).length ≤ l.length := by
  induction l generalizing m with
  | nil => simp [keep]
  | cons x l ih =>
    rw [keep]
    split
    · have := ih (m.erase x); simp; omega
    · have := ih m; simp; omega
theorem less_length (l m : List Int) : (less l m).length ≤ l.length := by rw [← keep_less]; exact keep_length l m
theorem less_snoc (l m : List Int) (n : Int) : less l (m ++ [n]) = (less l m).erase n := by simp [less]
theorem less_self (l : List Int) : less l l = [] := by
  induction l with
  | nil => rfl
  | cons x l ih => simp [less]; exact ih
/-- How many of them went. -/
def gone (l m : List Int) : Nat := l.length - (less l m).length
theorem gone_self (l : List Int) : gone l l = l.length := by rw [gone, less_self]; rfl
theorem same_beq (a b : List Int) : decide (a = b) = (a == b) := by
  by_cases h : a = b <;> simp [h]
end Go.Proofs.Ytooophfmhohnmaa.P
