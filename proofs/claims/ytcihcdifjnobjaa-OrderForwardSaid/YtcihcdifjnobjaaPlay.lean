/- For layer 13, about lists alone: families in turn, one address after the other. -/
import Derived.Test.YtcihcdifjnobjaaTwo
set_option linter.unusedSimpArgs false
set_option linter.unusedVariables false
namespace Go.Proofs.Ytcihcdifjnobjaa.Turn
section
variable {α : Type}
/-- One family's turn: what is out, what is left of each. -/
def step (p : List α × (Int → List α)) (f : Int) : List α × (Int → List α) := (p.1 ++ (p.2 f).head?.toList, fun g => if g = f then (p.2 g).tail else p.2 g)
def st (F : List Int) (q : Int → List α) : Nat → List α × (Int → List α)
  | 0 => ([], q)
  | n + 1 => step (st F q n) (F.getD (n % F.length) 0)
theorem fold_step : ∀ (fs : List Int) (p : List α × (Int → List α)), fs.Nodup → fs.foldl step p = (p.1 ++ heads (fs.map p.2), fun g => if g ∈ fs then (p.2 g).tail else p.2 g)
  | [], p, _ => by simp [heads]
  | f :: fs, p, h => by
    have h' := List.nodup_cons.1 h
    rw [List.foldl_cons, fold_step fs _ h'.2]
    have e1 : fs.map (step p f).2 = fs.map p.2 := List.map_congr_left fun g hg => by
      unfold step
      exact if_neg (fun (e : g = f) => h'.1 (e ▸ hg))
    have e2 : heads ((f :: fs).map p.2) = (p.2 f).head?.toList ++ heads (fs.map p.2) := by
      unfold heads
      rw [List.map_cons, List.filterMap_cons]
      cases (p.2 f).head? <;> rfl
    rw [e1, e2]
    refine Prod.ext ?_ (funext fun g => ?_)
    · show p.1 ++ _ ++ _ = _
      rw [List.append_assoc]
    · show (if g ∈ fs then ((step p f).2 g).tail else (step p f).2 g) = if g ∈ f :: fs then (p.2 g).tail else p.2 g
      unfold step
      by_cases hg : g = f
      · subst hg
        simp [h'.1]
      · simp [hg]
theorem st_part (F : List Int) (q : Int → List α) (r : Nat) : ∀ j, j ≤ F.length → st F q (r * F.length + j) = (F.take j).foldl step (st F q (r * F.length))
  | 0, _ => by simp
  | j + 1, h => by
    have ih := st_part F q r j (by omega)
    have e : (r * F.length + j) % F.length = j := by rw [Nat.mul_comm, Nat.mul_add_mod, Nat.mod_eq_of_lt (by omega)]
    rw [← Nat.add_assoc, st, ih, e]
    have hj : F[j]? = some F[j] := List.getElem?_eq_getElem (by omega)
    rw [List.take_add_one, hj, List.foldl_append, List.getD_eq_getElem?_getD, hj]
    rfl
theorem st_round {F : List Int} (hF : F.Nodup) (q : Int → List α) (r : Nat) : st F q ((r + 1) * F.length) = ((st F q (r * F.length)).1 ++ heads (F.map (st F q (r * F.length)).2), fun g => if g ∈ F then ((st F q (r * F.length)).2 g).tail else (st F q (r * F.length)).2 g) := by
  rw [Nat.add_mul, Nat.one_mul, st_part F q r F.length (Nat.le_refl _), List.take_length, fold_step _ _ hF]
theorem st_rounds {F : List Int} (hF : F.Nodup) (q : Int → List α) (R : Nat) : ∀ r, r ≤ R → (st F q (r * F.length)).1 ++ rounds (R - r) (F.map (st F q (r * F.length)).2) = rounds R (F.map q)
  | 0, _ => by simp [st]
  | r + 1, h => by
    have ih := st_rounds hF q R r (by omega)
    rw [← ih, st_round hF, show R - r = (R - (r + 1)) + 1 by omega, rounds, List.append_assoc]
    congr 2
    congr 1
    rw [List.map_map]
    refine List.map_congr_left fun g hg => ?_
    show (if g ∈ F then _ else _) = _
    rw [if_pos hg]
    rfl
theorem st_end {F : List Int} (hF : F.Nodup) (q : Int → List α) (R : Nat) : (st F q (R * F.length)).1 = rounds R (F.map q) := by
  have h := st_rounds hF q R R (Nat.le_refl _)
  rwa [Nat.sub_self, rounds, List.append_nil] at h
theorem st_mono (F : List Int) (q : Int → List α) (n : Nat) : ∀ k, (st F q n).1 <+: (st F q (n + k)).1
  | 0 => List.prefix_refl _
  | k + 1 => (st_mono F q n k).trans ⟨_, rfl⟩
/-- What is left, where some are gone. -/
def remq (fam : α → Int) : List α → List Bool → Int → List α
  | x :: l, b :: g, f => if b = false ∧ fam x = f then x :: remq fam l g f else remq fam l g f
  | _, _, _ => []
theorem remq_start (fam : α → Int) (l : List α) (f : Int) : remq fam l (List.replicate l.length false) f = fq fam l f := by
  induction l with
  | nil => rfl
  | cons x t ih =>
    rw [List.length_cons, List.replicate_succ, remq, ih]
    unfold fq
    by_cases h : fam x = f <;> simp [List.filter_cons, inF, h]
def NoPick (fam : α → Int) (l : List α) (g : List Bool) (f : Int) (i : Nat) : Prop := ∀ (j : Nat) (x : α), j < i → l[j]? = some x → g[j]? = some false → fam x ≠ f
theorem remq_none (fam : α → Int) : ∀ (l : List α) (g : List Bool) (f : Int), NoPick fam l g f l.length → remq fam l g f = []
  | [], _, _, _ => by simp [remq]
  | x :: l, [], _, _ => by simp [remq]
  | x :: l, b :: g, f, h => by
    rw [remq, if_neg, remq_none fam l g f (fun j y hj hy hg => h (j + 1) y (by simp; omega) (by simpa using hy) (by simpa using hg))]
    rintro ⟨rfl, e⟩
    exact h 0 x (by simp) rfl rfl e
theorem remq_pick (fam : α → Int) : ∀ (l : List α) (g : List Bool) (f : Int) (i : Nat) (x : α), l[i]? = some x → g[i]? = some false → fam x = f → NoPick fam l g f i → remq fam l g f = x :: remq fam l (g.set i true) f ∧ ∀ f', f' ≠ f → remq fam l (g.set i true) f' = remq fam l g f'
  | [], _, _, _, _, h, _, _, _ => by simp at h
  | y :: l, [], _, _, _, _, h, _, _ => by simp at h
  | y :: l, b :: g, f, 0, x, hx, hg, hf, _ => by
    have e1 : y = x := by simpa using hx
    have e2 : b = false := by simpa using hg
    subst e1 e2
    constructor
    · simp [remq, hf]
    · intro f' hne
      simp [remq, hf, Ne.symm hne]
  | y :: l, b :: g, f, i + 1, x, hx, hg, hf, hn => by
    have ih := remq_pick fam l g f i x (by simpa using hx) (by simpa using hg) hf (fun j z hj hz hgz => hn (j + 1) z (by omega) (by simpa using hz) (by simpa using hgz))
    have h0 : ¬ (b = false ∧ fam y = f) := by
      rintro ⟨rfl, e⟩
      exact hn 0 y (by omega) rfl rfl e
    constructor
    · rw [List.set_cons_succ, remq, if_neg h0, remq, if_neg h0]
      exact ih.1
    · intro f' hne
      rw [List.set_cons_succ, remq, remq, ih.2 f' hne]
variable {fam : α → Int}
def stA (fam : α → Int) (l : List α) (n : Nat) : List α × (Int → List α) := st (kinds fam l) (fq fam l) n
theorem stA_end (l : List α) : (stA fam l (l.length * (kinds fam l).length)).1 = turns fam l := st_end (once_nodup _) _ _
theorem stA_pre (l : List α) {n : Nat} (h : n ≤ l.length * (kinds fam l).length) : (stA fam l n).1 <+: turns fam l := by
  rw [← stA_end]
  have := st_mono (kinds fam l) (fq fam l) n (l.length * (kinds fam l).length - n)
  rwa [show n + (l.length * (kinds fam l).length - n) = l.length * (kinds fam l).length by omega] at this
theorem kinds_pos {l : List α} (h : l ≠ []) : 0 < (kinds fam l).length := by
  cases l with
  | nil => exact absurd rfl h
  | cons x t => exact List.length_pos_of_mem (mem_kinds.2 ⟨x, by simp, rfl⟩)
theorem kinds_len (l : List α) : (kinds fam l).length ≤ l.length := by unfold kinds; have := once_len (l.map fam); simpa using this
theorem stA_step_some (l : List α) (n : Nat) {f : Int} {x : α} {t : List α} (hf : (kinds fam l)[n % (kinds fam l).length]? = some f) (hq : (stA fam l n).2 f = x :: t) : (stA fam l (n + 1)).1 = (stA fam l n).1 ++ [x] ∧ (stA fam l (n + 1)).2 f = t ∧ ∀ g, g ≠ f → (stA fam l (n + 1)).2 g = (stA fam l n).2 g := by
  have e : (kinds fam l).getD (n % (kinds fam l).length) 0 = f := by rw [List.getD_eq_getElem?_getD, hf]; rfl
  have h : stA fam l (n + 1) = step (stA fam l n) f := by unfold stA; rw [st, e]
  rw [h]
  unfold step
  refine ⟨by show _ ++ _ = _; rw [hq]; rfl, by show (if f = f then _ else _) = _; rw [if_pos rfl, hq]; rfl, fun g hg => by show (if g = f then _ else _) = _; rw [if_neg hg]⟩
theorem stA_step_none (l : List α) (n : Nat) {f : Int} (hf : (kinds fam l)[n % (kinds fam l).length]? = some f) (hq : (stA fam l n).2 f = []) : (stA fam l (n + 1)).1 = (stA fam l n).1 ∧ ∀ g, (stA fam l (n + 1)).2 g = (stA fam l n).2 g := by
  have e : (kinds fam l).getD (n % (kinds fam l).length) 0 = f := by rw [List.getD_eq_getElem?_getD, hf]; rfl
  have h : stA fam l (n + 1) = step (stA fam l n) f := by unfold stA; rw [st, e]
  rw [h]
  unfold step
  refine ⟨by show _ ++ _ = _; rw [hq]; simp, fun g => ?_⟩
  show (if g = f then _ else _) = _
  split
  · rename_i hg; rw [hg, hq]; rfl
  · rfl
end
section
variable {α : Type} [DecidableEq α] {fam : α → Int}
theorem stA_len (l : List α) {n : Nat} (h : n ≤ l.length * (kinds fam l).length) : (stA fam l n).1.length ≤ l.length := by
  have := (stA_pre l h).length_le
  rwa [turns_len] at this
theorem stA_done (l : List α) {n : Nat} (h : n ≤ l.length * (kinds fam l).length) (h2 : l.length ≤ (stA fam l n).1.length) : (stA fam l n).1 = turns fam l :=
  (stA_pre l h).eq_of_length (by have := stA_len l h; rw [turns_len]; omega)
theorem stA_more (l : List α) {n : Nat} (h : n ≤ l.length * (kinds fam l).length) (h2 : (stA fam l n).1.length < l.length) : n < l.length * (kinds fam l).length := by
  rcases Nat.lt_or_ge n (l.length * (kinds fam l).length) with h3 | h3
  · exact h3
  · have e : n = l.length * (kinds fam l).length := by omega
    rw [e, stA_end, turns_len] at h2
    omega
end
end Go.Proofs.Ytcihcdifjnobjaa.Turn
