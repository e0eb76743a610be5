/- For layer 13, about lists alone: of two families. -/
import Derived.Test.YtcihcdifjnobjaaTurns
set_option linter.unusedSimpArgs false
set_option linter.unusedVariables false
namespace Go.Proofs.Ytcihcdifjnobjaa.Turn
section
variable {α : Type}
/-- One of each in turn, then what is left. -/
def inter : List α → List α → List α
  | [], ys => ys
  | x :: xs, ys => x :: inter ys xs
termination_by xs ys => xs.length + ys.length
theorem inter_nil (ys : List α) : inter [] ys = ys := by rw [inter]
theorem inter_cons (x : α) (xs ys : List α) : inter (x :: xs) ys = x :: inter ys xs := by rw [inter]
theorem inter_none (xs : List α) : inter xs [] = xs := by
  cases xs with
  | nil => rw [inter_nil]
  | cons x t => rw [inter_cons, inter_nil]
theorem rounds_one : ∀ (n : Nat) (xs : List α), xs.length ≤ n → rounds n [xs] = xs
  | 0, xs, h => by rw [List.eq_nil_of_length_eq_zero (Nat.le_zero.1 h)]; rfl
  | n + 1, xs, h => by
    have ih := rounds_one n xs.tail (by simp only [List.length_tail]; omega)
    show heads [xs] ++ rounds n [xs.tail] = xs
    rw [ih]
    cases xs <;> rfl
theorem rounds_two : ∀ (n : Nat) (xs ys : List α), xs.length ≤ n → ys.length ≤ n → rounds n [xs, ys] = inter xs ys
  | 0, xs, ys, h, h2 => by rw [List.eq_nil_of_length_eq_zero (Nat.le_zero.1 h), List.eq_nil_of_length_eq_zero (Nat.le_zero.1 h2), inter_nil]; rfl
  | n + 1, xs, ys, h, h2 => by
    have ih := rounds_two n xs.tail ys.tail (by simp only [List.length_tail]; omega) (by simp only [List.length_tail]; omega)
    show heads [xs, ys] ++ rounds n [xs.tail, ys.tail] = inter xs ys
    rw [ih]
    cases xs with
    | nil =>
      cases ys with
      | nil => rfl
      | cons y ys => rw [inter_nil]; show [y] ++ inter [] ys = _; rw [inter_nil]; rfl
    | cons x xs =>
      cases ys with
      | nil => rw [inter_none]; show [x] ++ inter xs [] = _; rw [inter_none]; rfl
      | cons y ys => rw [inter_cons, inter_cons]; rfl
/-- Where an element of either row stands. -/
theorem inter_at : ∀ (n : Nat) (xs ys : List α), xs.length + ys.length ≤ n → (∀ (i : Nat) (z : α), xs[i]? = some z → (inter xs ys)[i + min i ys.length]? = some z) ∧ (∀ (i : Nat) (z : α), ys[i]? = some z → (inter xs ys)[i + min (i + 1) xs.length]? = some z)
  | 0, xs, ys, h => by
    have h1 : xs = [] := List.eq_nil_of_length_eq_zero (by omega)
    have h2 : ys = [] := List.eq_nil_of_length_eq_zero (by omega)
    subst h1 h2
    simp
  | n + 1, [], ys, h => by
    rw [inter_nil]
    simp
  | n + 1, x :: xs, ys, h => by
    have ih := inter_at n ys xs (by simp only [List.length_cons] at h; omega)
    rw [inter_cons]
    constructor
    · intro i z hz
      cases i with
      | zero => simpa using hz
      | succ i =>
        have h1 := ih.2 i z (by simpa using hz)
        rw [show i + 1 + min (i + 1) ys.length = (i + min (i + 1) ys.length) + 1 by omega, List.getElem?_cons_succ]
        exact h1
    · intro i z hz
      have h1 := ih.1 i z hz
      rw [show i + min (i + 1) (x :: xs).length = (i + min i xs.length) + 1 by simp only [List.length_cons]; omega, List.getElem?_cons_succ]
      exact h1
/-- No two of a family side by side, ahead of where only one is left. -/
theorem inter_apart (fam : α → Int) {c d : Int} (hcd : c ≠ d) : ∀ (n : Nat) (xs ys : List α) (c d : Int), c ≠ d → xs.length + ys.length ≤ n → (∀ x ∈ xs, fam x = c) → (∀ y ∈ ys, fam y = d) →
    ∀ (i : Nat) (a b : α), (inter xs ys)[i]? = some a → (inter xs ys)[i + 1]? = some b → fam a = fam b → ∀ (k : Nat) (z : α), i < k → (inter xs ys)[k]? = some z → fam z = fam b
  | 0, xs, ys, c, d, hcd, h, hx, hy, i, a, b, ha, _, _, _, _, _, _ => by
    have h1 : xs = [] := List.eq_nil_of_length_eq_zero (by omega)
    have h2 : ys = [] := List.eq_nil_of_length_eq_zero (by omega)
    subst h1 h2
    rw [inter_nil] at ha
    simp at ha
  | n + 1, [], ys, c, d, hcd, h, hx, hy, i, a, b, ha, hb, he, k, z, hk, hz => by
    rw [inter_nil] at hb hz
    rw [hy z (List.mem_of_getElem? hz), hy b (List.mem_of_getElem? hb)]
  | n + 1, x :: xs, ys, c, d, hcd, h, hx, hy, i, a, b, ha, hb, he, k, z, hk, hz => by
    have ih := inter_apart fam hcd n ys xs d c (Ne.symm hcd) (by simp only [List.length_cons] at h; omega) hy (fun y hy => hx y (List.mem_cons_of_mem _ hy))
    rw [inter_cons] at ha hb hz
    rw [List.getElem?_cons_succ] at hb
    obtain ⟨k, rfl⟩ : ∃ k', k = k' + 1 := ⟨k - 1, by omega⟩
    rw [List.getElem?_cons_succ] at hz
    cases i with
    | zero =>
      have e : x = a := by simpa using ha
      subst e
      cases ys with
      | nil =>
        rw [inter_nil] at hb hz
        rw [hx z (List.mem_cons_of_mem _ (List.mem_of_getElem? hz)), hx b (List.mem_cons_of_mem _ (List.mem_of_getElem? hb))]
      | cons y ys =>
        rw [inter_cons] at hb
        have e : y = b := by simpa using hb
        subst e
        rw [hx x (by simp), hy y (by simp)] at he
        exact absurd he hcd
    | succ i =>
      rw [List.getElem?_cons_succ] at ha
      exact ih i a b ha hb he k z (by omega) hz
theorem filter_idx (p : α → Bool) {l : List α} {k : Nat} {z : α} (hz : l[k]? = some z) (hp : p z = true) : (l.filter p)[((l.take k).filter p).length]? = some z := by
  induction l generalizing k with
  | nil => simp at hz
  | cons x t ih =>
    cases k with
    | zero =>
      simp at hz
      subst hz
      simp [List.filter_cons, hp]
    | succ k =>
      have h := ih (k := k) (by simpa using hz)
      cases hx : p x <;> simp [List.filter_cons, hx, h]
theorem filter_short (p : α → Bool) (l : List α) (k : Nat) : ((l.take k).filter p).length ≤ k := by
  have h1 := List.length_filter_le p (l.take k)
  have h2 : (l.take k).length ≤ k := by rw [List.length_take]; omega
  omega
variable {fam : α → Int}
theorem turns_nil : turns fam ([] : List α) = [] := rfl
/-- Of two families: those of the first one's in turn with the others. -/
theorem turns_two (x : α) (t : List α) (c d : Int) (hx : fam x = c) (hcd : c ≠ d) (hall : ∀ y ∈ x :: t, fam y = c ∨ fam y = d) : turns fam (x :: t) = inter (fq fam (x :: t) c) (fq fam (x :: t) d) := by
  have hk : kinds fam (x :: t) = [c] ∧ (∀ y ∈ x :: t, fam y = c) ∨ kinds fam (x :: t) = [c, d] := by
    have key : ∀ m : List α, (∀ y ∈ m, fam y = c ∨ fam y = d) → (once (c :: m.map fam) = [c] ∧ (∀ y ∈ m, fam y = c)) ∨ once (c :: m.map fam) = [c, d] := by
      refine fun m => snoc_rec (P := fun m => (∀ y ∈ m, fam y = c ∨ fam y = d) → (once (c :: m.map fam) = [c] ∧ (∀ y ∈ m, fam y = c)) ∨ once (c :: m.map fam) = [c, d]) (fun _ => .inl ⟨by simp [once], by simp⟩) (fun m z ih h => ?_) m
      have e : c :: (m ++ [z]).map fam = (c :: m.map fam) ++ [fam z] := by simp
      rw [e, once_snoc]
      have hz := h z (by simp)
      rcases ih (fun y hy => h y (List.mem_append_left _ hy)) with ⟨h1, h2⟩ | h1
      · rw [h1]
        rcases hz with hz | hz
        · rw [hz, if_pos (by simp)]
          refine .inl ⟨rfl, fun y hy => ?_⟩
          rcases List.mem_append.1 hy with h3 | h3
          · exact h2 y h3
          · rw [List.mem_singleton] at h3; rw [h3, hz]
        · rw [hz, if_neg (by simp [Ne.symm hcd])]
          exact .inr rfl
      · rw [h1]
        refine .inr ?_
        rcases hz with hz | hz <;> rw [hz, if_pos (by simp)]
    have h := key t (fun y hy => hall y (List.mem_cons_of_mem _ hy))
    have e : kinds fam (x :: t) = once (c :: t.map fam) := by unfold kinds; rw [List.map_cons, hx]
    rw [e]
    rcases h with ⟨h1, h2⟩ | h1
    · refine .inl ⟨h1, fun y hy => ?_⟩
      rcases List.mem_cons.1 hy with rfl | hy
      · exact hx
      · exact h2 y hy
    · exact .inr h1
  unfold turns
  rcases hk with ⟨hk, h2⟩ | hk
  · rw [hk]
    have e : fq fam (x :: t) d = [] := by
      unfold fq
      rw [List.filter_eq_nil_iff]
      intro y hy hf
      have : fam y = d := by simpa [inF] using hf
      exact hcd ((h2 y hy).symm.trans this)
    rw [e, inter_none]
    exact rounds_one _ _ (List.length_filter_le _ _)
  · rw [hk]
    exact rounds_two _ _ _ (List.length_filter_le _ _) (List.length_filter_le _ _)
end
section
variable {α : Type} [DecidableEq α] {fam : α → Int}
/-- With one less, no other one stands later. -/
theorem forward {l : List α} {x z : α} {c d : Int} (hcd : c ≠ d) (hall : ∀ y ∈ l, fam y = c ∨ fam y = d) (hn : l.Nodup) (hzx : z ≠ x) {i : Nat} (hi : (turns fam l)[i]? = some z) :
    ∃ j, j ≤ i ∧ (turns fam (l.filter (fun y => decide (y ≠ x))))[j]? = some z := by
  cases l with
  | nil => simp [turns_nil] at hi
  | cons h t =>
    have hzl : z ∈ h :: t := mem_turns.1 (List.mem_of_getElem? hi)
    obtain ⟨l', hl'⟩ : ∃ l', l' = (h :: t).filter (fun y => decide (y ≠ x)) := ⟨_, rfl⟩
    have hz' : z ∈ l' := by rw [hl', List.mem_filter]; exact ⟨hzl, by simpa using hzx⟩
    have hall' : ∀ y ∈ l', fam y = c ∨ fam y = d := fun y hy => hall y (by rw [hl'] at hy; exact (List.mem_filter.1 hy).1)
    rw [← hl']
    -- the head's family and the other one
    obtain ⟨c1, d1, h1, hcd1, hall1⟩ : ∃ c1 d1, fam h = c1 ∧ c1 ≠ d1 ∧ ∀ y ∈ h :: t, fam y = c1 ∨ fam y = d1 := by
      rcases hall h (by simp) with e | e
      · exact ⟨c, d, e, hcd, hall⟩
      · exact ⟨d, c, e, Ne.symm hcd, fun y hy => (hall y hy).symm⟩
    have hT := turns_two h t c1 d1 h1 hcd1 hall1
    obtain ⟨xs, hxs⟩ : ∃ xs, xs = fq fam (h :: t) c1 := ⟨_, rfl⟩
    obtain ⟨ys, hys⟩ : ∃ ys, ys = fq fam (h :: t) d1 := ⟨_, rfl⟩
    rw [← hxs, ← hys] at hT
    have hxs0 : xs[0]? = some h := by rw [hxs]; unfold fq; simp [List.filter_cons, inF, h1]
    have hq : ∀ f, fq fam l' f = (fq fam (h :: t) f).filter (fun y => decide (y ≠ x)) := fun f => by
      rw [hl']; unfold fq; rw [List.filter_filter, List.filter_filter]
      refine List.filter_congr fun y _ => Bool.and_comm _ _
    have hX : fq fam l' c1 = xs.filter (fun y => decide (y ≠ x)) := by rw [hq, hxs]
    have hY : fq fam l' d1 = ys.filter (fun y => decide (y ≠ x)) := by rw [hq, hys]
    have hXl := List.length_filter_le (fun y => decide (y ≠ x)) xs
    have hYl := List.length_filter_le (fun y => decide (y ≠ x)) ys
    have hnT : (turns fam (h :: t)).Nodup := turns_nodup hn
    -- where z stands
    have hin := inter_at _ xs ys (Nat.le_refl _)
    rw [hT] at hi hnT
    have uniq : ∀ j, (inter xs ys)[j]? = some z → j = i := fun j hj => by
      obtain ⟨a1, b1⟩ := List.getElem?_eq_some_iff.1 hj
      obtain ⟨a2, b2⟩ := List.getElem?_eq_some_iff.1 hi
      exact (List.getElem_inj hnT).1 (b1.trans b2.symm)
    have hpz : decide (z ≠ x) = true := decide_eq_true hzx
    have hwhere : (∃ k : Nat, xs[k]? = some z) ∨ (∃ k : Nat, ys[k]? = some z) := by
      rcases hall1 z hzl with e | e
      · exact .inl (by have : z ∈ xs := by { rw [hxs]; exact List.mem_filter.2 ⟨hzl, by simp [inF, e]⟩ }; exact List.mem_iff_getElem?.1 this)
      · exact .inr (by have : z ∈ ys := by { rw [hys]; exact List.mem_filter.2 ⟨hzl, by simp [inF, e]⟩ }; exact List.mem_iff_getElem?.1 this)
    -- the new row begins with the same family, or with the other one
    by_cases hxh : h = x
    · -- the head goes
      have hnx : xs.Nodup := by rw [hxs]; exact hn.filter _
      cases hl2 : l' with
      | nil => rw [hl2] at hz'; simp at hz'
      | cons h2 t2 =>
        have hXle : xs.filter (fun y => decide (y ≠ x)) = xs.drop 1 := by
          cases xs with
          | nil => rfl
          | cons q xt =>
            have e : q = h := by simpa using hxs0
            subst e
            subst hxh
            rw [List.filter_cons, if_neg (by simp), List.drop_one, List.tail_cons]
            refine List.filter_eq_self.2 fun y hy => ?_
            have := (List.nodup_cons.1 hnx).1
            simp only [decide_eq_true_eq]
            exact fun e => this (e ▸ hy)
        have hYle : ys.filter (fun y => decide (y ≠ x)) = ys := by
          refine List.filter_eq_self.2 fun y hy => ?_
          simp only [decide_eq_true_eq]
          intro e
          have h3 : fam y = d1 := by rw [hys] at hy; exact fq_fam hy
          rw [e, ← hxh, h1] at h3
          exact hcd1 h3
        rw [hl2] at hX hY hall'
        rw [hXle] at hX
        rw [hYle] at hY
        have hin1 := inter_at _ (xs.drop 1) ys (Nat.le_refl _)
        have hin2 := inter_at _ ys (xs.drop 1) (Nat.le_refl _)
        have hall2 : ∀ y ∈ h2 :: t2, fam y = c1 ∨ fam y = d1 := fun y hy => hall1 y (by rw [← hl2, hl'] at hy; exact (List.mem_filter.1 hy).1)
        have hxlen : (xs.drop 1).length = xs.length - 1 := by simp
        rcases hall2 h2 (by simp) with e | e
        · have hT2 := turns_two h2 t2 c1 d1 e hcd1 hall2
          rw [hX, hY] at hT2
          rw [hT2]
          rcases hwhere with ⟨k, hk⟩ | ⟨k, hk⟩
          · have e1 := uniq _ (hin.1 k z hk)
            have hk0 : k ≠ 0 := fun e0 => by subst e0; rw [hxs0] at hk; exact hzx ((Option.some.inj hk).symm.trans hxh)
            refine ⟨_, ?_, hin1.1 (k - 1) z (by rw [List.getElem?_drop, show 1 + (k - 1) = k by omega]; exact hk)⟩
            omega
          · have e1 := uniq _ (hin.2 k z hk)
            exact ⟨_, by omega, hin1.2 k z hk⟩
        · have hT2 := turns_two h2 t2 d1 c1 e (Ne.symm hcd1) (fun y hy => (hall2 y hy).symm)
          rw [hX, hY] at hT2
          rw [hT2]
          rcases hwhere with ⟨k, hk⟩ | ⟨k, hk⟩
          · have e1 := uniq _ (hin.1 k z hk)
            have hk0 : k ≠ 0 := fun e0 => by subst e0; rw [hxs0] at hk; exact hzx ((Option.some.inj hk).symm.trans hxh)
            refine ⟨_, ?_, hin2.2 (k - 1) z (by rw [List.getElem?_drop, show 1 + (k - 1) = k by omega]; exact hk)⟩
            omega
          · have e1 := uniq _ (hin.2 k z hk)
            have := (List.getElem?_eq_some_iff.1 hk).1
            have hx1 : 0 < xs.length := (List.getElem?_eq_some_iff.1 hxs0).1
            exact ⟨_, by omega, hin2.1 k z hk⟩
    · -- the head stays
      have hl2 : l' = h :: t.filter (fun y => decide (y ≠ x)) := by rw [hl', List.filter_cons, if_pos (by simpa using hxh)]
      have hall2 : ∀ y ∈ h :: t.filter (fun y => decide (y ≠ x)), fam y = c1 ∨ fam y = d1 := fun y hy => hall1 y (by rw [← hl2, hl'] at hy; exact (List.mem_filter.1 hy).1)
      have hT2 := turns_two h (t.filter (fun y => decide (y ≠ x))) c1 d1 h1 hcd1 hall2
      rw [← hl2, hX, hY] at hT2
      rw [hT2]
      have hin1 := inter_at _ (xs.filter (fun y => decide (y ≠ x))) (ys.filter (fun y => decide (y ≠ x))) (Nat.le_refl _)
      rcases hwhere with ⟨k, hk⟩ | ⟨k, hk⟩
      · have e1 := uniq _ (hin.1 k z hk)
        have hs := filter_short (fun y => decide (y ≠ x)) xs k
        exact ⟨_, by omega, hin1.1 _ z (filter_idx _ hk hpz)⟩
      · have e1 := uniq _ (hin.2 k z hk)
        have hs := filter_short (fun y => decide (y ≠ x)) ys k
        exact ⟨_, by omega, hin1.2 _ z (filter_idx _ hk hpz)⟩
end
end Go.Proofs.Ytcihcdifjnobjaa.Turn
