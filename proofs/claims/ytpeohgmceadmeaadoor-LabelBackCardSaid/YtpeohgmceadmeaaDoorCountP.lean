/- PLAIN LEAN for layer 1: runes, counted. -/
import Derived.Test.YtpeohgmceadmeaaDoorFold
namespace Go.Proofs.YtpeohgmceadmeaaDoor.P
/-- what is well formed, and what is not, told rune by rune. -/
theorem wells_cons (o : Nat × Nat) (t : List (Nat × Nat)) : wells (o :: t) = (if o.2 = 0 then 0 else 1) + wells t := by
  by_cases h : o.2 = 0 <;> simp [wells, h, Nat.add_comm]
theorem ills_cons (o : Nat × Nat) (t : List (Nat × Nat)) : ills (o :: t) = (if o.2 = 0 then 1 else 0) + ills t := by
  by_cases h : o.2 = 0 <;> simp [ills, h, Nat.add_comm]
theorem count_at (s : List UInt8) (pos r n : Nat) (h : pos < s.length) (ho : one (s.drop pos) = (r, n)) :
    wells (runesOf (s.drop pos)) = (if n = 0 then 0 else 1) + wells (runesOf (s.drop (pos + max 1 n))) ∧ ills (runesOf (s.drop pos)) = (if n = 0 then 1 else 0) + ills (runesOf (s.drop (pos + max 1 n))) := by
  rw [runesOf_at s pos h, wells_cons, ills_cons, wd, ho]
  exact ⟨rfl, rfl⟩
theorem bad_prefix (l : List UInt8) (r n : Nat) (ho : one l = (r, n)) : (n = 0 → Lib.hasPrefix l [239, 191, 189] = false) ∧ (n ≠ 0 → r = 65533 → Lib.hasPrefix l [239, 191, 189] = true) := by
  constructor
  · intro hn
    cases h : Lib.hasPrefix l [239, 191, 189] with
    | false => rfl
    | true =>
      exfalso
      rw [Lib.hasPrefix, List.isPrefixOf_iff_prefix] at h
      obtain ⟨t, rfl⟩ := h
      have : one ([239, 191, 189] ++ t) = (65533, 3) := rfl
      rw [this] at ho
      simp at ho; omega
  · intro hn hr
    subst hr
    cases l with
    | nil => simp [one] at ho
    | cons a l =>
      rw [one_cons] at ho
      have ha := a.toNat_lt
      have hl : ∀ m q least, (long (a :: l) m q least = (65533, n)) → least ≤ 65533 ∧ acc (m - 1) l q = some 65533 ∧ n = m := by
        intro m q least h1
        rcases long_cases (a :: l) m q least with h2 | ⟨x, h2, h3, h4, _⟩
        · rw [h2] at h1; simp at h1
        · rw [h3] at h1
          obtain ⟨rfl, rfl⟩ : x = 65533 ∧ m = n := by simpa using h1
          exact ⟨h4, by simpa using h2, rfl⟩
      split at ho
      · simp at ho; omega
      · split at ho
        · obtain ⟨_, h2, _⟩ := hl 2 _ _ ho
          match l, h2 with
          | [], h2 => simp [acc] at h2
          | b :: l, h2 =>
            simp only [acc, cb] at h2
            by_cases h5 : b.toNat / 64 = 2
            · simp [h5] at h2; omega
            · simp [h5] at h2
        · split at ho
          · obtain ⟨_, h2, _⟩ := hl 3 _ _ ho
            match l, h2 with
            | [], h2 => simp [acc] at h2
            | [b], h2 =>
              simp [acc] at h2
            | b :: c :: l, h2 =>
              have hb := b.toNat_lt
              have hc := c.toNat_lt
              simp only [acc, cb] at h2
              by_cases h5 : b.toNat / 64 = 2
              · by_cases h6 : c.toNat / 64 = 2
                · simp [h5, h6] at h2
                  have e1 : a = 239 := UInt8.toNat_inj.1 (by show a.toNat = 239; omega)
                  have e2 : b = 191 := UInt8.toNat_inj.1 (by show b.toNat = 191; omega)
                  have e3 : c = 189 := UInt8.toNat_inj.1 (by show c.toNat = 189; omega)
                  subst e1 e2 e3
                  simp [Lib.hasPrefix]
                · simp [h5, h6] at h2
              · simp [h5] at h2
          · split at ho
            · obtain ⟨h1, _⟩ := hl 4 _ _ ho
              omega
            · simp at ho
end Go.Proofs.YtpeohgmceadmeaaDoor.P
