/- PLAIN LEAN for layer 1: the runes of texts one behind the other. -/
import Derived.Test.YtpeohgmceadmeaaDoorCountP
namespace Go.Proofs.YtpeohgmceadmeaaDoor.P

theorem acc_append : ∀ (n : Nat) (l x : List UInt8) (r q : Nat), acc n l r = some q → acc n (l ++ x) r = some q
  | 0, _, _, _, _, h => by simpa [acc] using h
  | n + 1, [], _, _, _, h => by simp [acc] at h
  | n + 1, b :: l, x, r, q, h => by
    unfold acc at h
    rw [List.cons_append]
    unfold acc
    by_cases hc : cb b = true
    · rw [if_pos hc] at h ⊢; exact acc_append n l x _ q h
    · rw [if_neg hc] at h; simp at h
theorem acc_ff : ∀ (n : Nat) (l b : List UInt8) (r : Nat), acc n (l ++ 255 :: b) r = acc n l r
  | 0, _, _, _ => by simp [acc]
  | n + 1, [], b, r => by
    have : cb 255 = false := by decide
    simp [acc, this]
  | n + 1, c :: l, b, r => by
    rw [List.cons_append]
    unfold acc
    rw [acc_ff n l b]
theorem long_ff (a : UInt8) (l b : List UInt8) (n r least : Nat) : long ((a :: l) ++ 255 :: b) n r least = long (a :: l) n r least := by
  unfold long
  rw [List.cons_append, List.drop_succ_cons, List.drop_zero, List.drop_succ_cons, List.drop_zero, acc_ff]
theorem one_ff (a : UInt8) (l b : List UInt8) : one ((a :: l) ++ 255 :: b) = one (a :: l) := by
  rw [one_cons, List.cons_append, one_cons, ← List.cons_append, long_ff, long_ff, long_ff]
theorem long_append (a : UInt8) (l x : List UInt8) (n r least : Nat) (h : (long (a :: l) n r least).2 ≠ 0) : long ((a :: l) ++ x) n r least = long (a :: l) n r least := by
  rcases long_cases (a :: l) n r least with h1 | ⟨q, h1, h2, _⟩
  · rw [h1] at h; simp at h
  · have h3 : acc (n - 1) l r = some q := by simpa using h1
    have h4 := acc_append _ _ x _ _ h3
    unfold long
    rw [List.cons_append, List.drop_succ_cons, List.drop_zero, List.drop_succ_cons, List.drop_zero, h3, h4]
theorem one_append (a : UInt8) (l x : List UInt8) (h : (one (a :: l)).2 ≠ 0) : one ((a :: l) ++ x) = one (a :: l) := by
  rw [one_cons] at h ⊢
  rw [List.cons_append, one_cons, ← List.cons_append]
  repeat' split
  all_goals first | rfl | skip
  all_goals simp_all only [if_true, if_false, ne_eq, not_false_eq_true]
  all_goals first | exact long_append _ _ _ _ _ _ h | (exfalso; simp_all; done)

theorem drop_wd (a : UInt8) (l x : List UInt8) : ((a :: l) ++ x).drop (wd (a :: l)) = (a :: l).drop (wd (a :: l)) ++ x := by
  have h := one_le (a :: l)
  rw [List.drop_append_of_le_length]
  unfold wd
  simp at h ⊢; omega
theorem runesOf_ne (l : List UInt8) (h : l ≠ []) : runesOf l = one l :: runesOf (l.drop (wd l)) := by
  cases l with
  | nil => exact absurd rfl h
  | cons a l => exact runesOf_cons a l
theorem runes_ff (b : List UInt8) : ∀ a : List UInt8, runesOf (a ++ 255 :: b) = runesOf a ++ (0, 0) :: runesOf b :=
  runes_ind (motive := fun a => runesOf (a ++ 255 :: b) = runesOf a ++ (0, 0) :: runesOf b)
    (by
      have h1 : one (255 :: b) = (0, 0) := rfl
      rw [List.nil_append, runesOf_cons, wd, h1]; rfl)
    (fun a l ih => by
      have hw : wd ((a :: l) ++ 255 :: b) = wd (a :: l) := by rw [wd, wd, one_ff]
      rw [runesOf_ne ((a :: l) ++ 255 :: b) (by simp), one_ff, hw, drop_wd, ih, runesOf_cons a l]
      rfl)
theorem runes_append (b : List UInt8) : ∀ a : List UInt8, ills (runesOf a) = 0 → runesOf (a ++ b) = runesOf a ++ runesOf b :=
  runes_ind (motive := fun a => ills (runesOf a) = 0 → runesOf (a ++ b) = runesOf a ++ runesOf b)
    (fun _ => rfl)
    (fun a l ih h => by
      rw [runesOf_cons, ills_cons] at h
      have h1 : (one (a :: l)).2 ≠ 0 := by intro h2; rw [if_pos h2] at h; omega
      have h3 : ills (runesOf ((a :: l).drop (wd (a :: l)))) = 0 := by omega
      have hw : wd ((a :: l) ++ b) = wd (a :: l) := by rw [wd, wd, one_append _ _ _ h1]
      rw [runesOf_ne ((a :: l) ++ b) (by simp), one_append _ _ _ h1, hw, drop_wd, ih h3, runesOf_cons a l]
      rfl)
theorem wells_append (a b : List (Nat × Nat)) : wells (a ++ b) = wells a + wells b := by simp [wells]
theorem ills_append (a b : List (Nat × Nat)) : ills (a ++ b) = ills a + ills b := by simp [ills]
theorem count_le : ∀ a : List UInt8, wells (runesOf a) + ills (runesOf a) ≤ a.length :=
  runes_ind (motive := fun a => wells (runesOf a) + ills (runesOf a) ≤ a.length) (by simp [runesOf_nil, wells, ills])
    (fun a l ih => by
      rw [runesOf_cons, wells_cons, ills_cons]
      have hw := wd_pos (a :: l)
      simp at ih ⊢
      split <;> omega)
theorem valid_well : ∀ (a : List UInt8) (b : Int), validR b (runesOf a) = true → ills (runesOf a) = 0 := by
  intro a
  refine runes_ind (motive := fun a => ∀ b : Int, validR b (runesOf a) = true → ills (runesOf a) = 0) (fun _ _ => rfl) (fun a l ih b h => ?_) a
  rw [runesOf_cons, validR, Bool.and_eq_true] at h
  rw [runesOf_cons, ills_cons, ih _ h.2]
  have : (one (a :: l)).2 ≠ 0 := by
    intro h0
    have h1 := one_zero _ h0
    have h2 := h.1
    rw [h1] at h2
    have := (fol_bad b).1
    rw [show fol b (((0, 0) : Nat × Nat).1 : Int) = fol b 0 from rfl, this] at h2
    cases h2
  rw [if_neg this]
theorem name_well (a : List UInt8) (h : name a = true) : ills (runesOf a) = 0 := valid_well a 46 (name_valid a h).2
end Go.Proofs.YtpeohgmceadmeaaDoor.P
