/- PLAIN LEAN for layer 2: what less tells is an order. -/
import Derived.Test.YtbejnnkdgcelmaaGreatDoorLess
set_option linter.unusedSimpArgs false
set_option linter.unusedVariables false
namespace Go.Proofs.YtbejnnkdgcelmaaGreatDoor
open Go.RowKit
open Go.Sort (SWO)

theorem cmp_zero (x y : Int) : Lib.compareInt x y = 0 ↔ x = y := by
  rcases (show x < y ∨ y < x ∨ x = y by omega) with h | h | h
  · rw [cmp_lt x y h]; omega
  · rw [cmp_gt x y h]; omega
  · rw [cmp_eq x y h]; omega
theorem cmp_neg (x y : Int) : Lib.compareInt y x = - Lib.compareInt x y := by
  rcases (show x < y ∨ y < x ∨ x = y by omega) with h | h | h
  · rw [cmp_lt x y h, cmp_gt y x h]; rfl
  · rw [cmp_gt x y h, cmp_lt y x h]
  · rw [cmp_eq x y h, cmp_eq y x h.symm]; rfl
theorem cmp_neg_lt (x y : Int) : Lib.compareInt x y < 0 ↔ x < y := by
  rcases (show x < y ∨ y < x ∨ x = y by omega) with h | h | h
  · rw [cmp_lt x y h]; omega
  · rw [cmp_gt x y h]; omega
  · rw [cmp_eq x y h]; omega
theorem cmpL_cons (x y : Int) (l m : List Int) : cmpL (x :: l) (y :: m) = if x = y then cmpL l m else Lib.compareInt x y := by
  rw [cmpL]
  by_cases h : x = y
  · rw [if_pos h, if_pos ((cmp_zero x y).2 h)]
  · rw [if_neg h, if_neg (fun e => h ((cmp_zero x y).1 e))]
theorem cmpL_refl : ∀ l : List Int, cmpL l l = 0
  | [] => rfl
  | x :: l => by rw [cmpL_cons, if_pos rfl]; exact cmpL_refl l
theorem cmpL_neg : ∀ l m : List Int, l.length = m.length → cmpL m l = - cmpL l m
  | [], [], _ => rfl
  | [], _ :: _, h => by simp at h
  | _ :: _, [], h => by simp at h
  | x :: l, y :: m, h => by
    rw [cmpL_cons, cmpL_cons]
    by_cases e : x = y
    · rw [if_pos e, if_pos e.symm]; exact cmpL_neg l m (by simpa using h)
    · rw [if_neg e, if_neg (fun q => e q.symm)]; exact cmp_neg x y
theorem cmpL_zero : ∀ l m : List Int, l.length = m.length → cmpL l m = 0 → l = m
  | [], [], _, _ => rfl
  | [], _ :: _, h, _ => by simp at h
  | _ :: _, [], h, _ => by simp at h
  | x :: l, y :: m, h, hc => by
    rw [cmpL_cons] at hc
    by_cases e : x = y
    · rw [if_pos e] at hc
      rw [e, cmpL_zero l m (by simpa using h) hc]
    · rw [if_neg e] at hc
      exact absurd ((cmp_zero x y).1 hc) e
theorem cmpL_trans : ∀ l m n : List Int, l.length = m.length → m.length = n.length → cmpL l m < 0 → cmpL m n < 0 → cmpL l n < 0
  | [], [], n, _, _, h, _ => by simp [cmpL] at h
  | [], _ :: _, _, h, _, _, _ => by simp at h
  | _ :: _, [], _, h, _, _, _ => by simp at h
  | _ :: _, _ :: _, [], _, h, _, _ => by simp at h
  | x :: l, y :: m, z :: n, h1, h2, c1, c2 => by
    rw [cmpL_cons] at c1 c2 ⊢
    by_cases e1 : x = y
    · rw [if_pos e1] at c1
      subst e1
      by_cases e2 : x = z
      · rw [if_pos e2] at c2 ⊢
        exact cmpL_trans l m n (by simpa using h1) (by simpa using h2) c1 c2
      · rw [if_neg e2] at c2 ⊢
        exact c2
    · rw [if_neg e1, cmp_neg_lt] at c1
      by_cases e2 : y = z
      · subst e2
        rw [if_neg e1, cmp_neg_lt]; exact c1
      · rw [if_neg e2, cmp_neg_lt] at c2
        rw [if_neg (by omega), cmp_neg_lt]; omega
theorem cmpL_app (x y : Int) : ∀ l m : List Int, l.length = m.length → cmpL (l ++ [x]) (m ++ [y]) = if cmpL l m = 0 then Lib.compareInt x y else cmpL l m
  | [], [], _ => by
    show cmpL [x] [y] = _
    rw [cmpL_cons]
    by_cases e : x = y
    · rw [if_pos e]; simp [cmpL, (cmp_zero x y).2 e]
    · rw [if_neg e]; simp [cmpL]
  | [], _ :: _, h => by simp at h
  | _ :: _, [], h => by simp at h
  | a :: l, b :: m, h => by
    rw [List.cons_append, List.cons_append, cmpL_cons, cmpL_cons]
    by_cases e : a = b
    · rw [if_pos e, if_pos e]; exact cmpL_app x y l m (by simpa using h)
    · rw [if_neg e, if_neg e, if_neg (fun q => e ((cmp_zero a b).1 q))]
def Ad.key (a : Ad) : List Int := a.f :: (a.gs ++ [a.p])
theorem Ad.key_length (a : Ad) : a.key.length = 10 := rfl
theorem Ad.key_inj (a b : Ad) (h : a.key = b.key) : a = b := by
  obtain ⟨f, g0, g1, g2, g3, g4, g5, g6, g7, p⟩ := a
  obtain ⟨f', k0, k1, k2, k3, k4, k5, k6, k7, p'⟩ := b
  simpa [Ad.key, Ad.gs] using h
theorem cmpA_key (a b : Ad) : cmpA a b = cmpL a.key b.key := by
  unfold cmpA Ad.key
  rw [cmpL_cons]
  simp only [orI]
  by_cases e : a.f = b.f
  · rw [if_pos ((cmp_zero _ _).2 e), if_pos e, cmpL_app a.p b.p a.gs b.gs rfl]
    by_cases e2 : cmpL a.gs b.gs = 0
    · rw [if_pos e2, if_pos e2]
      by_cases e3 : Lib.compareInt a.p b.p = 0
      · rw [if_pos e3, e3]
      · rw [if_neg e3]
    · rw [if_neg e2, if_neg e2]
  · rw [if_neg (fun q => e ((cmp_zero _ _).1 q)), if_neg e]
theorem less_self (a : Ad) : lessP a a = false := by
  unfold lessP
  rw [cmpA_key, cmpL_refl]; rfl
theorem less_trans (a b c : Ad) (h1 : lessP a b = true) (h2 : lessP b c = true) : lessP a c = true := by
  unfold lessP at *
  rw [cmpA_key] at *
  simp only [decide_eq_true_eq] at *
  exact cmpL_trans a.key b.key c.key rfl rfl h1 h2
theorem less_total (a b : Ad) (h1 : lessP a b = false) (h2 : lessP b a = false) : a = b := by
  unfold lessP at *
  rw [cmpA_key] at *
  simp only [decide_eq_false_iff_not] at *
  rw [cmpL_neg a.key b.key rfl] at h2
  exact a.key_inj b (cmpL_zero a.key b.key rfl (by omega))
theorem less_not (a b : Ad) (h1 : lessP a b = true) : lessP b a = false := by
  cases h : lessP b a with
  | false => rfl
  | true => have := less_trans a b a h1 h; rw [less_self] at this; exact this.symm
/-- What the program's comparison answers. -/
def cfP (a b : Ad) : Int := if a = b then 0 else if lessP a b = true then -1 else 1
theorem cfP_lt (a b : Ad) : Go.Proofs.ltOf cfP a b = lessP a b := by
  unfold Go.Proofs.ltOf cfP
  by_cases e : a = b
  · subst e; rw [if_pos rfl, less_self]; rfl
  · rw [if_neg e]
    cases h : lessP a b <;> simp
theorem cfP_swo : SWO (Go.Proofs.ltOf cfP) where
  irrefl x := by rw [cfP_lt]; exact less_self x
  trans x y z h1 h2 := by rw [cfP_lt] at *; exact less_trans x y z h1 h2
  ntrans x y z h1 h2 := by
    rw [cfP_lt] at *
    cases h : lessP x z with
    | false => rfl
    | true =>
      cases hxy : lessP y x with
      | true => rw [less_trans y x z hxy h] at h2; cases h2
      | false => rw [less_total x y h1 hxy] at h; rw [h] at h2; cases h2
theorem cfP_tot (x y : Ad) (h1 : Go.Proofs.ltOf cfP x y = false) (h2 : Go.Proofs.ltOf cfP y x = false) : x = y := by
  rw [cfP_lt] at *
  exact less_total x y h1 h2
def sortP (l : List Ad) : List Ad := l.mergeSort fun x y => !lessP y x
theorem sort_perm (l : List Ad) : (sortP l).Perm l := List.mergeSort_perm l _
theorem sort_len (l : List Ad) : (sortP l).length = l.length := (sort_perm l).length_eq
theorem sort_count (l : List Ad) (a : Ad) : (sortP l).count a = l.count a := (sort_perm l).count_eq a
theorem sort_sorted (l : List Ad) : (sortP l).Pairwise fun x y => lessP y x = false := by
  have h := List.pairwise_mergeSort (le := fun x y : Ad => !lessP y x) (by
    intro a b c h1 h2
    simp only [Bool.not_eq_true'] at *
    have := cfP_swo.ntrans c b a (by rw [cfP_lt]; exact h2) (by rw [cfP_lt]; exact h1)
    rwa [cfP_lt] at this) (by
    intro a b
    simp only [Bool.or_eq_true, Bool.not_eq_true']
    cases h : lessP b a with
    | false => exact .inl rfl
    | true => exact .inr (less_not b a h)) l
  refine h.imp ?_
  intro a b hab
  simpa using hab
theorem sort_next (l : List Ad) (i : Nat) (x y : Ad) (hx : (sortP l)[i]? = some x) (hy : (sortP l)[i + 1]? = some y) : lessP y x = false := by
  obtain ⟨h1, h1'⟩ := List.getElem?_eq_some_iff.1 hx
  obtain ⟨h2, h2'⟩ := List.getElem?_eq_some_iff.1 hy
  have h := List.pairwise_iff_getElem.1 (sort_sorted l) i (i + 1) h1 h2 (by omega)
  rwa [h1', h2'] at h
end Go.Proofs.YtbejnnkdgcelmaaGreatDoor
