/- What is ready, as plain data: which cases, in which order; what follows of it. Nothing here knows the program's code. -/
set_option linter.unusedSimpArgs false
set_option linter.unusedVariables false
namespace Go.Proofs.Ytjiepdgflfhkcaa.P7
/-- A meeting. -/
structure Mt where
  p : Int
  i : Int
  q : Int
  j : Int
  deriving DecidableEq, Inhabited
def lessP (a b : Mt) : Prop := a.p < b.p ∨ (a.p = b.p ∧ (a.i < b.i ∨ (a.i = b.i ∧ (a.q < b.q ∨ (a.q = b.q ∧ a.j < b.j)))))
theorem lessP_trans {a b c : Mt} (h : lessP a b) (h2 : lessP b c) : lessP a c := by unfold lessP at *; omega
theorem lessP_irrefl (a : Mt) : ¬ lessP a a := by unfold lessP; omega

/-- Two rows that rise, with the same members, are the same. -/
theorem rising_ext : ∀ {l k : List Mt}, l.Pairwise lessP → k.Pairwise lessP → (∀ m, m ∈ l ↔ m ∈ k) → l = k
  | [], [], _, _, _ => rfl
  | [], y :: k, _, _, h => by simpa using h y
  | x :: l, [], _, _, h => by simpa using h x
  | x :: l, y :: k, h1, h2, h => by
    rw [List.pairwise_cons] at h1 h2
    have hxy : x = y := by
      have hx : x ∈ y :: k := (h x).1 (by simp)
      have hy : y ∈ x :: l := (h y).2 (by simp)
      rw [List.mem_cons] at hx hy
      rcases hx with hx | hx
      · exact hx
      · rcases hy with hy | hy
        · exact hy.symm
        · exact absurd (lessP_trans (h1.1 y hy) (h2.1 x hx)) (lessP_irrefl x)
    subst hxy
    congr 1
    refine rising_ext h1.2 h2.2 (fun m => ?_)
    have hm := h m
    rw [List.mem_cons, List.mem_cons] at hm
    constructor
    · intro hml
      rcases hm.1 (.inr hml) with e | e
      · subst e; exact absurd (h1.1 m hml) (lessP_irrefl m)
      · exact e
    · intro hmk
      rcases hm.2 (.inr hmk) with e | e
      · subst e; exact absurd (h2.1 m hmk) (lessP_irrefl m)
      · exact e

section
variable {α : Type} (al : Nat → Nat → α → Bool) (me : α → α → Bool)
def cellQ (R : List (List α)) (p i : Nat) (o : α) (q : Nat) (row : List α) : List Mt :=
  if q = p then [] else (List.range row.length).flatMap fun (j : Nat) => match row[j]? with
    | some b => if me o b then [⟨(p : Int), (i : Int), (q : Int), (j : Int)⟩] else []
    | none => []
def cellP (R : List (List α)) (p i : Nat) (o : α) : List Mt :=
  (if al p i o then [⟨p, i, -1, -1⟩] else []) ++ (List.range R.length).flatMap fun (q : Nat) => match R[q]? with
    | some row => cellQ me R p i o q row
    | none => []
def rowP (R : List (List α)) (p : Nat) (row : List α) : List Mt :=
  (List.range row.length).flatMap fun (i : Nat) => match row[i]? with
    | some o => cellP al me R p i o
    | none => []
def allP (R : List (List α)) : List Mt :=
  (List.range R.length).flatMap fun (p : Nat) => match R[p]? with
    | some row => rowP al me R p row
    | none => []

theorem mem_cellQ {R : List (List α)} {p i : Nat} {o : α} {q : Nat} {row : List α} {m : Mt} : m ∈ cellQ me R p i o q row ↔ q ≠ p ∧ ∃ (j : Nat) (b : α), row[j]? = some b ∧ me o b = true ∧ m = ⟨p, i, q, j⟩ := by
  unfold cellQ
  by_cases h : q = p
  · simp [h]
  · simp only [h, if_false, List.mem_flatMap, List.mem_range, ne_eq, not_false_eq_true, true_and]
    constructor
    · rintro ⟨j, hj, hm⟩
      rw [List.getElem?_eq_getElem hj] at hm
      dsimp only at hm
      split at hm
      · rename_i hme
        rw [List.mem_singleton] at hm
        exact ⟨j, row[j], List.getElem?_eq_getElem hj, hme, hm⟩
      · cases hm
    · rintro ⟨j, b, hb, hme, rfl⟩
      refine ⟨j, (List.getElem?_eq_some_iff.1 hb).1, ?_⟩
      rw [hb]
      simp [hme]
theorem mem_cellP {R : List (List α)} {p i : Nat} {o : α} {m : Mt} : m ∈ cellP al me R p i o ↔ (al p i o = true ∧ m = ⟨p, i, -1, -1⟩) ∨ ∃ (q : Nat) (row : List α), R[q]? = some row ∧ q ≠ p ∧ ∃ (j : Nat) (b : α), row[j]? = some b ∧ me o b = true ∧ m = ⟨p, i, q, j⟩ := by
  unfold cellP
  rw [List.mem_append, List.mem_flatMap]
  apply or_congr
  · by_cases h : al p i o = true <;> simp [h]
  · constructor
    · rintro ⟨q, hq, hm⟩
      rw [List.mem_range] at hq
      rw [List.getElem?_eq_getElem hq] at hm
      exact ⟨q, R[q], List.getElem?_eq_getElem hq, (mem_cellQ me).1 hm⟩
    · rintro ⟨q, row, hr, h⟩
      refine ⟨q, List.mem_range.2 (List.getElem?_eq_some_iff.1 hr).1, ?_⟩
      rw [hr]
      exact (mem_cellQ me).2 h
theorem mem_rowP {R : List (List α)} {p : Nat} {row : List α} {m : Mt} : m ∈ rowP al me R p row ↔ ∃ (i : Nat) (o : α), row[i]? = some o ∧ m ∈ cellP al me R p i o := by
  unfold rowP
  rw [List.mem_flatMap]
  constructor
  · rintro ⟨i, hi, hm⟩
    rw [List.mem_range] at hi
    rw [List.getElem?_eq_getElem hi] at hm
    exact ⟨i, row[i], List.getElem?_eq_getElem hi, hm⟩
  · rintro ⟨i, o, ho, hm⟩
    refine ⟨i, List.mem_range.2 (List.getElem?_eq_some_iff.1 ho).1, ?_⟩
    rw [ho]
    exact hm
/-- What is ready. -/
theorem mem_allP {R : List (List α)} {m : Mt} : m ∈ allP al me R ↔ ∃ (p : Nat) (row : List α) (i : Nat) (o : α), R[p]? = some row ∧ row[i]? = some o ∧ ((al p i o = true ∧ m = ⟨p, i, -1, -1⟩) ∨ ∃ (q : Nat) (row2 : List α), R[q]? = some row2 ∧ q ≠ p ∧ ∃ (j : Nat) (b : α), row2[j]? = some b ∧ me o b = true ∧ m = ⟨p, i, q, j⟩) := by
  unfold allP
  rw [List.mem_flatMap]
  constructor
  · rintro ⟨p, hp, hm⟩
    rw [List.mem_range] at hp
    rw [List.getElem?_eq_getElem hp] at hm
    obtain ⟨i, o, ho, hm⟩ := (mem_rowP al me).1 hm
    exact ⟨p, R[p], i, o, List.getElem?_eq_getElem hp, ho, (mem_cellP al me).1 hm⟩
  · rintro ⟨p, row, i, o, hr, ho, hm⟩
    refine ⟨p, List.mem_range.2 (List.getElem?_eq_some_iff.1 hr).1, ?_⟩
    rw [hr]
    exact (mem_rowP al me).2 ⟨i, o, ho, (mem_cellP al me).2 hm⟩

theorem pairwise_range_flatMap {n : Nat} {f : Nat → List Mt} (h1 : ∀ p, p < n → (f p).Pairwise lessP) (h2 : ∀ p p', p < p' → p' < n → ∀ x ∈ f p, ∀ y ∈ f p', lessP x y) : ((List.range n).flatMap f).Pairwise lessP := by
  rw [List.pairwise_flatMap]
  refine ⟨fun p hp => h1 p (List.mem_range.1 hp), ?_⟩
  refine (List.pairwise_lt_range (n := n)).imp_of_mem ?_
  intro a b ha hb hab
  exact h2 a b hab (List.mem_range.1 hb)
theorem rising_cellQ (R : List (List α)) (p i : Nat) (o : α) (q : Nat) (row : List α) : (cellQ me R p i o q row).Pairwise lessP := by
  unfold cellQ
  split
  · exact List.Pairwise.nil
  · refine pairwise_range_flatMap (fun j hj => ?_) (fun j j' hjj hj' x hx y hy => ?_)
    · rw [List.getElem?_eq_getElem hj]
      dsimp only
      split
      · simp
      · exact List.Pairwise.nil
    · rw [List.getElem?_eq_getElem (by omega)] at hx hy
      dsimp only at hx hy
      split at hx
      · split at hy
        · rw [List.mem_singleton] at hx hy
          subst hx hy
          unfold lessP
          dsimp only
          omega
        · cases hy
      · cases hx
theorem cellQ_q {R : List (List α)} {p i : Nat} {o : α} {q : Nat} {row : List α} {m : Mt} (h : m ∈ cellQ me R p i o q row) : m.p = p ∧ m.i = i ∧ m.q = q := by
  obtain ⟨_, j, b, _, _, rfl⟩ := (mem_cellQ me).1 h
  exact ⟨rfl, rfl, rfl⟩
theorem rising_cellP (R : List (List α)) (p i : Nat) (o : α) : (cellP al me R p i o).Pairwise lessP := by
  unfold cellP
  rw [List.pairwise_append]
  refine ⟨by split <;> simp, pairwise_range_flatMap (fun q hq => ?_) (fun q q' hqq hq' x hx y hy => ?_), fun x hx y hy => ?_⟩
  · rw [List.getElem?_eq_getElem hq]
    exact rising_cellQ me R p i o q _
  · rw [List.getElem?_eq_getElem (by omega)] at hx hy
    have h1 := cellQ_q me hx
    have h2 := cellQ_q me hy
    unfold lessP
    omega
  · rw [List.mem_flatMap] at hy
    obtain ⟨q, hq, hy⟩ := hy
    rw [List.mem_range] at hq
    rw [List.getElem?_eq_getElem hq] at hy
    have h2 := cellQ_q me hy
    split at hx
    · rw [List.mem_singleton] at hx
      subst hx
      unfold lessP
      dsimp only
      omega
    · cases hx
theorem cellP_i {R : List (List α)} {p i : Nat} {o : α} {m : Mt} (h : m ∈ cellP al me R p i o) : m.p = p ∧ m.i = i := by
  rcases (mem_cellP al me).1 h with ⟨_, rfl⟩ | ⟨_, _, _, _, _, _, _, _, rfl⟩ <;> exact ⟨rfl, rfl⟩
theorem rising_rowP (R : List (List α)) (p : Nat) (row : List α) : (rowP al me R p row).Pairwise lessP := by
  unfold rowP
  refine pairwise_range_flatMap (fun i hi => ?_) (fun i i' hii hi' x hx y hy => ?_)
  · rw [List.getElem?_eq_getElem hi]
    exact rising_cellP al me R p i _
  · rw [List.getElem?_eq_getElem (by omega)] at hx hy
    have h1 := cellP_i al me hx
    have h2 := cellP_i al me hy
    unfold lessP
    omega
theorem rowP_p {R : List (List α)} {p : Nat} {row : List α} {m : Mt} (h : m ∈ rowP al me R p row) : m.p = p := by
  obtain ⟨i, o, _, h⟩ := (mem_rowP al me).1 h
  exact (cellP_i al me h).1
theorem rising_allP (R : List (List α)) : (allP al me R).Pairwise lessP := by
  unfold allP
  refine pairwise_range_flatMap (fun p hp => ?_) (fun p p' hpp hp' x hx y hy => ?_)
  · rw [List.getElem?_eq_getElem hp]
    exact rising_rowP al me R p _
  · rw [List.getElem?_eq_getElem (by omega)] at hx hy
    have h1 := rowP_p al me hx
    have h2 := rowP_p al me hy
    unfold lessP
    omega

theorem allP_mono {al' : Nat → Nat → α → Bool} {R R' : List (List α)} (hal : ∀ p i o, al p i o = true → al' p i o = true) (hR : ∀ (p : Nat) (row : List α), R[p]? = some row → R'[p]? = some row) {m : Mt} (h : m ∈ allP al me R) : m ∈ allP al' me R' := by
  obtain ⟨p, row, i, o, h1, h2, h3⟩ := (mem_allP al me).1 h
  refine (mem_allP al' me).2 ⟨p, row, i, o, hR _ _ h1, h2, ?_⟩
  rcases h3 with ⟨h3, h4⟩ | ⟨q, row2, h3, h4⟩
  · exact .inl ⟨hal _ _ _ h3, h4⟩
  · exact .inr ⟨q, row2, hR _ _ h3, h4⟩
/-- A goroutine that ends takes away just what it was in. -/
theorem allP_gone (R : List (List α)) (g : Nat) (hg : g < R.length) : allP al me (R.set g []) = (allP al me R).filter (fun m => decide (m.p ≠ (g : Int)) && decide (m.q ≠ (g : Int))) := by
  refine rising_ext (rising_allP al me _) ((rising_allP al me R).filter _) (fun m => ?_)
  rw [List.mem_filter, mem_allP, mem_allP]
  have hne : ∀ (p : Nat) (row : List α) (i : Nat) (o : α), (R.set g [])[p]? = some row → row[i]? = some o → p ≠ g ∧ R[p]? = some row := by
    intro p row i o h1 h2
    by_cases hp : p = g
    · subst hp
      rw [List.getElem?_set_self hg] at h1
      injection h1 with h1
      subst h1
      simp at h2
    · exact ⟨hp, by rwa [List.getElem?_set_ne (fun e => hp e.symm)] at h1⟩
  constructor
  · rintro ⟨p, row, i, o, h1, h2, h3⟩
    obtain ⟨hp, hr⟩ := hne p row i o h1 h2
    rcases h3 with ⟨h3, rfl⟩ | ⟨q, row2, h4, h5, j, b, h6, h7, rfl⟩
    · exact ⟨⟨p, row, i, o, hr, h2, .inl ⟨h3, rfl⟩⟩, by simp; omega⟩
    · obtain ⟨hq, hr2⟩ := hne q row2 j b h4 h6
      exact ⟨⟨p, row, i, o, hr, h2, .inr ⟨q, row2, hr2, h5, j, b, h6, h7, rfl⟩⟩, by simp; omega⟩
  · rintro ⟨⟨p, row, i, o, h1, h2, h3⟩, hf⟩
    simp only [Bool.and_eq_true, decide_eq_true_eq, ne_eq] at hf
    rcases h3 with ⟨h3, rfl⟩ | ⟨q, row2, h4, h5, j, b, h6, h7, rfl⟩
    · have hp : g ≠ p := by intro e; exact hf.1 (by rw [e])
      exact ⟨p, row, i, o, by rw [List.getElem?_set_ne hp]; exact h1, h2, .inl ⟨h3, rfl⟩⟩
    · have hp : g ≠ p := by intro e; exact hf.1 (by rw [e])
      have hq : g ≠ q := by intro e; exact hf.2 (by rw [e])
      exact ⟨p, row, i, o, by rw [List.getElem?_set_ne hp]; exact h1, h2, .inr ⟨q, row2, by rw [List.getElem?_set_ne hq]; exact h4, h5, j, b, h6, h7, rfl⟩⟩

/-- Of one goroutine: up to its k-th case. -/
def oneP (a : List α) (k : Nat) : List Mt := (List.range k).flatMap fun (i : Nat) => match a[i]? with
  | some o => if al 0 i o then [⟨0, i, -1, -1⟩] else []
  | none => []
theorem allP_one (a : List α) : allP al me [a] = oneP al a a.length := by
  unfold allP rowP oneP
  simp only [List.length_singleton, List.range_one, List.flatMap_cons, List.flatMap_nil, List.append_nil, List.getElem?_cons_zero]
  congr 1
  funext i
  cases a[i]? with
  | none => rfl
  | some o =>
    dsimp only
    unfold cellP cellQ
    simp
theorem oneP_succ (a : List α) (k : Nat) (o : α) (h : a[k]? = some o) : oneP al a (k + 1) = oneP al a k ++ (if al 0 k o then [⟨0, k, -1, -1⟩] else []) := by
  unfold oneP
  rw [List.range_succ, List.flatMap_append]
  simp [h]
theorem oneP_le (a : List α) (k n : Nat) (h : k ≤ n) : ∃ r, oneP al a n = oneP al a k ++ r := by
  obtain ⟨d, rfl⟩ : ∃ d, n = k + d := ⟨n - k, by omega⟩
  refine ⟨((List.range d).map (k + ·)).flatMap fun (i : Nat) => match a[i]? with
    | some o => if al 0 i o then [⟨0, i, -1, -1⟩] else []
    | none => [], ?_⟩
  unfold oneP
  rw [List.range_add, List.flatMap_append]
theorem oneP_length_le (a : List α) (k : Nat) : (oneP al a k).length ≤ k := by
  induction k with
  | zero => simp [oneP]
  | succ k ih =>
    unfold oneP at *
    rw [List.range_succ, List.flatMap_append, List.length_append]
    have : (List.flatMap (fun (i : Nat) => match a[i]? with
      | some o => if al 0 i o then [(⟨0, i, -1, -1⟩ : Mt)] else []
      | none => []) [k]).length ≤ 1 := by
      simp only [List.flatMap_cons, List.flatMap_nil, List.append_nil]
      split
      · split <;> simp
      · simp
    omega

theorem sum_range (row : List α) (g : α → Nat) : ((List.range row.length).map (fun i => match row[i]? with | some o => g o | none => 0)).sum = (row.map g).sum := by
  congr 1
  apply List.ext_getElem
  · simp
  · intro i h1 h2
    simp at h1 h2
    simp [List.getElem?_eq_getElem h2]
/-- How many another's cases meet one. -/
def cqN (o : α) (row : List α) : Nat := (row.map (fun b => if me o b then 1 else 0)).sum
theorem cellQ_len (R : List (List α)) (p i : Nat) (o : α) (q : Nat) (row : List α) (h : q ≠ p) : (cellQ me R p i o q row).length = cqN me o row := by
  unfold cellQ cqN
  rw [if_neg h, List.length_flatMap]
  refine Eq.trans ?_ (sum_range row (fun b => if me o b then 1 else 0))
  congr 2
  funext j
  cases row[j]? with
  | none => rfl
  | some b => dsimp only; split <;> rfl
theorem cellQ_self (R : List (List α)) (p i : Nat) (o : α) (row : List α) : cellQ me R p i o p row = [] := by simp [cellQ]
theorem rowP_len2 (al0 : α → Bool) (a b : List α) (p : Nat) (hp : p < 2) (row other : List α) (hrow : [a, b][p]? = some row) (ho : [a, b][1 - p]? = some other) :
    (rowP (fun _ _ o => al0 o) me [a, b] p row).length = (row.map (fun o => (if al0 o then 1 else 0) + cqN me o other)).sum := by
  unfold rowP
  rw [List.length_flatMap]
  refine Eq.trans ?_ (sum_range row (fun o => (if al0 o then 1 else 0) + cqN me o other))
  congr 2
  funext i
  cases row[i]? with
  | none => rfl
  | some o =>
    dsimp only
    unfold cellP
    rw [List.length_append, List.length_flatMap]
    have h2 : List.range [a, b].length = [0, 1] := by rfl
    rw [h2]
    rcases (show p = 0 ∨ p = 1 by omega) with rfl | rfl
    · simp at hrow ho
      subst hrow ho
      have := cellQ_len me [a, b] 0 i o 1 b (by omega)
      have e0 := cellQ_self me [a, b] 0 i o
      simp [this, e0]
      split <;> simp
    · simp at hrow ho
      subst hrow ho
      have := cellQ_len me [a, b] 1 i o 0 a (by omega)
      have e0 := cellQ_self me [a, b] 1 i o
      simp [this, e0]
      split <;> simp
/-- Two who are one the other's turned about meet as often. -/
theorem allP_turned (al0 : α → Bool) (a b : List α) : (allP (fun _ _ o => al0 o) me [a, b]).length = (allP (fun _ _ o => al0 o) me [b, a]).length := by
  have h2 : ∀ x y : List α, (allP (fun _ _ o => al0 o) me [x, y]).length = (x.map (fun o => (if al0 o then 1 else 0) + cqN me o y)).sum + (y.map (fun o => (if al0 o then 1 else 0) + cqN me o x)).sum := by
    intro x y
    unfold allP
    rw [List.length_flatMap, show List.range [x, y].length = [0, 1] from rfl]
    have e1 := rowP_len2 me al0 x y 0 (by omega) x y rfl rfl
    have e2 := rowP_len2 me al0 x y 1 (by omega) y x rfl rfl
    simp [e1, e2]
  rw [h2, h2, Nat.add_comm]
theorem sum_le {β : Type} (g : β → Nat) : ∀ (l : List β) (f : Nat → Nat), (∀ i x, l[i]? = some x → f i ≤ g x) → ((List.range l.length).map f).sum ≤ (l.map g).sum
  | [], f, _ => by simp
  | y :: l, f, h => by
    rw [List.length_cons, List.range_succ_eq_map, List.map_cons, List.sum_cons, List.map_map, List.map_cons, List.sum_cons]
    have h1 := h 0 y (by simp)
    have h2 := sum_le g l (f ∘ Nat.succ) (fun i x hx => h (i + 1) x (by simpa using hx))
    omega
theorem sum_const (R : List (List α)) (c : Nat) : (R.map (fun l => l.length * c)).sum = (R.map (fun l => l.length)).sum * c := by
  induction R with
  | nil => simp
  | cons l R ih => simp only [List.map_cons, List.sum_cons, ih, Nat.add_mul]
theorem cellQ_le (R : List (List α)) (p i : Nat) (o : α) (q : Nat) (row : List α) : (cellQ me R p i o q row).length ≤ row.length := by
  unfold cellQ
  split
  · simp
  · rw [List.length_flatMap]
    refine Nat.le_trans (sum_le (fun _ => 1) row _ (fun j b hb => ?_)) ?_
    · rw [hb]
      dsimp only
      split <;> simp
    · have h1 : ∀ row : List α, (row.map (fun _ => 1)).sum ≤ row.length := by
        intro row
        induction row with
        | nil => simp
        | cons b row ih => simp only [List.map_cons, List.sum_cons, List.length_cons]; omega
      exact h1 row
theorem cellP_le (R : List (List α)) (p i : Nat) (o : α) : (cellP al me R p i o).length ≤ 1 + (R.map (fun l => l.length)).sum := by
  unfold cellP
  rw [List.length_append, List.length_flatMap]
  have h1 : (if al p i o = true then [(⟨p, i, -1, -1⟩ : Mt)] else []).length ≤ 1 := by split <;> simp
  have h2 := sum_le (fun l : List α => l.length) R (fun q => (match R[q]? with | some row => cellQ me R p i o q row | none => []).length) (fun q row hq => by rw [hq]; exact cellQ_le me R p i o q row)
  omega
theorem rowP_le (R : List (List α)) (p : Nat) (row : List α) : (rowP al me R p row).length ≤ row.length * (1 + (R.map (fun l => l.length)).sum) := by
  unfold rowP
  rw [List.length_flatMap]
  refine Nat.le_trans (sum_le (fun _ => 1 + (R.map (fun l => l.length)).sum) row _ (fun i o ho => ?_)) ?_
  · rw [ho]
    exact cellP_le al me R p i o
  · generalize 1 + (R.map (fun l => l.length)).sum = c
    induction row with
    | nil => simp
    | cons b row ih => simp only [List.map_cons, List.sum_cons, List.length_cons, Nat.add_mul, Nat.one_mul]; omega
theorem allP_le (R : List (List α)) : (allP al me R).length ≤ (R.map (fun l => l.length)).sum * (1 + (R.map (fun l => l.length)).sum) := by
  unfold allP
  rw [List.length_flatMap]
  refine Nat.le_trans (sum_le (fun row : List α => row.length * (1 + (R.map (fun l => l.length)).sum)) R _ (fun p row hp => ?_)) ?_
  · rw [hp]
    exact rowP_le al me R p row
  · rw [sum_const]
    exact Nat.le_refl _
end
end Go.Proofs.Ytjiepdgflfhkcaa.P7
