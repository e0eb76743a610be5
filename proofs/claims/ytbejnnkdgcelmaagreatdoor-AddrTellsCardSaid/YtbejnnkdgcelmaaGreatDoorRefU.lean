/- PLAIN LEAN: the document's sorting puts one after another where it belongs; what comes is our sorted row. -/
import Derived.Test.YtbejnnkdgcelmaaGreatDoorRefO
set_option linter.unusedSimpArgs false
set_option linter.unusedVariables false
namespace Go.Proofs.YtbejnnkdgcelmaaGreatDoor
open Go.RowKit

def insP (x : Ad) : List Ad → List Ad
  | [] => [x]
  | y :: r => if lessP x y = true then x :: y :: r else y :: insP x r
def insAll (l : List Ad) : List Ad := l.foldl (fun R x => insP x R) []
theorem insP_perm (x : Ad) : ∀ R : List Ad, (insP x R).Perm (x :: R)
  | [] => List.Perm.refl _
  | y :: r => by
    unfold insP
    split
    · exact List.Perm.refl _
    · exact ((insP_perm x r).cons y).trans (List.Perm.swap x y r)
theorem insP_sorted (x : Ad) : ∀ R : List Ad, (R.Pairwise fun a b => lessP b a = false) → (insP x R).Pairwise fun a b => lessP b a = false
  | [], _ => List.pairwise_singleton _ _
  | y :: r, h => by
    obtain ⟨h1, h2⟩ := List.pairwise_cons.1 h
    unfold insP
    split
    · rename_i hl
      refine List.pairwise_cons.2 ⟨fun z hz => ?_, h⟩
      rcases List.mem_cons.1 hz with rfl | hz
      · exact less_not x _ hl
      · cases hzx : lessP z x with
        | false => rfl
        | true =>
          have h3 := h1 z hz
          rw [less_trans z x y hzx hl] at h3; cases h3
    · rename_i hl
      refine List.pairwise_cons.2 ⟨fun z hz => ?_, insP_sorted x r h2⟩
      rcases List.mem_cons.1 ((insP_perm x r).mem_iff.1 hz) with rfl | hz
      · simpa using hl
      · exact h1 z hz
theorem sorted_unique : ∀ l m : List Ad, (l.Pairwise fun a b => lessP b a = false) → (m.Pairwise fun a b => lessP b a = false) → l.Perm m → l = m
  | [], m, _, _, h => (List.Perm.nil_eq h)
  | a :: l, [], _, _, h => absurd h.length_eq (by simp)
  | a :: l, b :: m, hl, hm, h => by
    obtain ⟨h1, h2⟩ := List.pairwise_cons.1 hl
    obtain ⟨k1, k2⟩ := List.pairwise_cons.1 hm
    have e : a = b := by
      rcases List.mem_cons.1 (h.mem_iff.1 (List.mem_cons_self : a ∈ a :: l)) with e | ha
      · exact e
      · rcases List.mem_cons.1 (h.mem_iff.2 (List.mem_cons_self : b ∈ b :: m)) with e | hb
        · exact e.symm
        · exact less_total a b (k1 a ha) (h1 b hb)
    subst e
    rw [sorted_unique l m h2 k2 (List.Perm.cons_inv h)]
theorem insAll_perm (l : List Ad) : ∀ R : List Ad, (l.foldl (fun R x => insP x R) R).Perm (l ++ R) := by
  induction l with
  | nil => exact fun R => List.Perm.refl _
  | cons x l ih =>
    intro R
    rw [List.foldl_cons]
    exact (ih _).trans (((insP_perm x R).append_left l).trans List.perm_middle)
theorem insAll_sorted (l : List Ad) : ∀ R : List Ad, (R.Pairwise fun a b => lessP b a = false) → (l.foldl (fun R x => insP x R) R).Pairwise fun a b => lessP b a = false := by
  induction l with
  | nil => exact fun R h => h
  | cons x l ih => intro R h; rw [List.foldl_cons]; exact ih _ (insP_sorted x R h)
theorem insAll_sort (l : List Ad) : insAll l = sortP l := by
  refine sorted_unique _ _ (insAll_sorted l [] List.Pairwise.nil) (sort_sorted l) ?_
  have h := insAll_perm l []
  rw [List.append_nil] at h
  exact h.trans (sort_perm l).symm
theorem insAll_take (l : List Ad) (k : Nat) (x : Ad) (h : l[k]? = some x) : insAll (l.take (k + 1)) = insP x (insAll (l.take k)) := by
  rw [insAll, List.take_add_one, h, List.foldl_append]; rfl
theorem insP_no (x y : Ad) (R : List Ad) (k : Nat) (h : R[k]? = some y) (hl : lessP x y = false) (he : insP x R = R.take k ++ insP x (R.drop k)) : insP x R = R.take (k + 1) ++ insP x (R.drop (k + 1)) := by
  rw [he, List.drop_eq_getElem_cons (List.getElem?_eq_some_iff.1 h).1, (List.getElem?_eq_some_iff.1 h).2, insP, if_neg (by rw [hl]; simp), List.take_add_one, h]
  simp
theorem insP_yes (x y : Ad) (R : List Ad) (k : Nat) (h : R[k]? = some y) (hl : lessP x y = true) (he : insP x R = R.take k ++ insP x (R.drop k)) : insP x R = R.take k ++ x :: R.drop k := by
  rw [he]
  congr 1
  rw [List.drop_eq_getElem_cons (List.getElem?_eq_some_iff.1 h).1, (List.getElem?_eq_some_iff.1 h).2, insP, if_pos hl]
theorem insP_all (x : Ad) (R : List Ad) (he : insP x R = R.take R.length ++ insP x (R.drop R.length)) : insP x R = R.take R.length ++ x :: R.drop R.length := by
  rw [he, List.drop_length]; rfl
end Go.Proofs.YtbejnnkdgcelmaaGreatDoor
