/- Lists alone: what is chosen by place and value; last places; notes told at once. -/
import Derived.Test.YtipbkhbdnjhofaaSpecs
set_option linter.unusedSimpArgs false
set_option linter.unusedVariables false
namespace Go.Proofs.Ytipbkhbdnjhofaa
open R3

/-- Those of a list that p tells, by place and value. -/
def pick {α : Type} (p : Nat → α → Bool) (l : List α) : List α := (l.zipIdx.filter (fun q => p q.2 q.1)).map Prod.fst
theorem pick_step {α : Type} {p : Nat → α → Bool} {l : List α} {k : Nat} {x : α} (hx : l[k]? = some x) : pick p (l.take (k + 1)) = pick p (l.take k) ++ (if p k x then [x] else []) := by
  have hk := (List.getElem?_eq_some_iff.1 hx).1
  have e : l.take (k + 1) = l.take k ++ [x] := by rw [List.take_add_one, hx]; rfl
  have hl : (l.take k).length = k := by rw [List.length_take]; omega
  unfold pick
  rw [e, List.zipIdx_append, List.filter_append, List.map_append, hl]
  congr 1
  simp only [List.zipIdx_cons, List.zipIdx_nil, Nat.zero_add, List.filter_cons, List.filter_nil]
  cases h : p k x <;> simp
theorem pick_le {α : Type} (p : Nat → α → Bool) (l : List α) (k : Nat) : (pick p (l.take k)).length ≤ k := by
  unfold pick
  rw [List.length_map]
  refine Nat.le_trans (List.length_filter_le _ _) ?_
  rw [List.length_zipIdx, List.length_take]; omega
theorem pick_congr {α : Type} {p q : Nat → α → Bool} {l : List α} (h : ∀ n x, l[n]? = some x → p n x = q n x) : pick p l = pick q l := by
  unfold pick
  congr 1
  refine List.filter_congr fun z hz => ?_
  obtain ⟨x, n⟩ := z
  exact h n x (List.mem_zipIdx_iff_getElem?.1 hz)
theorem pick_from {α : Type} (p : α → Bool) : ∀ (l : List α) (n : Nat), ((l.zipIdx n).filter (fun q => p q.1)).map Prod.fst = l.filter p
  | [], _ => rfl
  | x :: l, n => by
    rw [List.zipIdx_cons, List.filter_cons, List.filter_cons]
    have ih := pick_from p l (n + 1)
    cases h : p x
    · simpa using ih
    · simpa using ih
theorem pick_plain {α : Type} (p : α → Bool) (l : List α) : pick (fun _ x => p x) l = l.filter p := pick_from p l 0

/-- Where an address stands last among the first k. -/
def lastP (ds : List Ad) : Nat → Ad → Option Nat
  | 0, _ => none
  | k + 1, x => if ds[k]? = some x then some k else lastP ds k x
theorem lastP_yes {ds : List Ad} {k : Nat} {a : Ad} (h : ds[k]? = some a) : lastP ds (k + 1) a = some k := by unfold lastP; rw [if_pos h]
theorem lastP_no {ds : List Ad} {k : Nat} {a x : Ad} (h : ds[k]? = some a) (hn : a ≠ x) : lastP ds (k + 1) x = lastP ds k x := by
  rw [lastP, if_neg (by rw [h]; exact fun e => hn (Option.some.inj e))]
theorem lastP_iff (ds : List Ad) (x : Ad) : ∀ (k j : Nat), lastP ds k x = some j ↔ j < k ∧ ds[j]? = some x ∧ ∀ i, j < i → i < k → ds[i]? ≠ some x
  | 0, j => by simp [lastP]
  | k + 1, j => by
    rw [lastP]
    by_cases h : ds[k]? = some x
    · rw [if_pos h]
      constructor
      · intro e
        obtain rfl := Option.some.inj e
        exact ⟨by omega, h, fun i h1 h2 => by omega⟩
      · rintro ⟨h1, h2, h3⟩
        by_cases e : j = k
        · rw [e]
        · exact absurd h (h3 k (by omega) (by omega))
    · rw [if_neg h, lastP_iff ds x k j]
      constructor
      · rintro ⟨h1, h2, h3⟩
        refine ⟨by omega, h2, fun i h4 h5 => ?_⟩
        by_cases e : i = k
        · rw [e]; exact h
        · exact h3 i h4 (by omega)
      · rintro ⟨h1, h2, h3⟩
        have hj : j ≠ k := fun e => h (by rw [← e]; exact h2)
        exact ⟨by omega, h2, fun i h4 h5 => h3 i h4 (by omega)⟩
theorem lastP_none (ds : List Ad) (x : Ad) : ∀ k : Nat, lastP ds k x = none ↔ ∀ i, i < k → ds[i]? ≠ some x
  | 0 => by simp [lastP]
  | k + 1 => by
    rw [lastP]
    by_cases h : ds[k]? = some x
    · rw [if_pos h]
      constructor
      · intro e; cases e
      · intro e; exact absurd h (e k (by omega))
    · rw [if_neg h, lastP_none ds x k]
      constructor
      · intro e i hi
        by_cases e2 : i = k
        · rw [e2]; exact h
        · exact e i (by omega)
      · intro e i hi
        exact e i (by omega)
theorem lastP_mem (ds : List Ad) (x : Ad) : (lastP ds ds.length x).isSome = decide (x ∈ ds) := by
  cases h : lastP ds ds.length x with
  | none =>
    have h1 := (lastP_none ds x _).1 h
    symm
    simp only [Option.isSome_none, decide_eq_false_iff_not]
    intro hm
    obtain ⟨i, hi, e⟩ := List.getElem_of_mem hm
    exact h1 i hi (by rw [List.getElem?_eq_getElem hi, e])
  | some j =>
    have h1 := (lastP_iff ds x _ j).1 h
    symm
    simp only [Option.isSome_some, decide_eq_true_eq]
    exact List.mem_of_getElem? h1.2.1
/-- Each address once, where it stands last. -/
def onceL : List Ad → List Ad
  | [] => []
  | a :: ds => if a ∈ ds then onceL ds else a :: onceL ds
theorem onceL_len : ∀ ds : List Ad, (onceL ds).length ≤ ds.length
  | [] => Nat.le_refl _
  | a :: ds => by
    have := onceL_len ds
    unfold onceL
    split <;> simp <;> omega
theorem onceL_mem : ∀ (ds : List Ad) (x : Ad), x ∈ onceL ds → x ∈ ds
  | [], x, h => h
  | a :: ds, x, h => by
    unfold onceL at h
    split at h
    · exact List.mem_cons_of_mem _ (onceL_mem ds x h)
    · rcases List.mem_cons.1 h with rfl | h2
      · exact List.mem_cons_self
      · exact List.mem_cons_of_mem _ (onceL_mem ds x h2)
theorem once_from (q : Nat → Ad → Bool) : ∀ (ds pre : List Ad), (∀ n x, (pre ++ ds)[n]? = some x → q n x = decide (x ∉ (pre ++ ds).drop (n + 1))) →
    ((ds.zipIdx pre.length).filter (fun z => q z.2 z.1)).map Prod.fst = onceL ds
  | [], _, _ => rfl
  | a :: ds, pre, h => by
    have e1 : (pre ++ a :: ds)[pre.length]? = some a := by simp
    have e2 : (pre ++ a :: ds).drop (pre.length + 1) = ds := by
      rw [show pre ++ a :: ds = (pre ++ [a]) ++ ds by simp, show pre.length + 1 = (pre ++ [a]).length by simp, List.drop_left]
    have h1 := h pre.length a e1
    rw [e2] at h1
    have ih := once_from q ds (pre ++ [a]) (by simpa using h)
    rw [show (pre ++ [a]).length = pre.length + 1 by simp] at ih
    rw [List.zipIdx_cons, List.filter_cons]
    unfold onceL
    by_cases hm : a ∈ ds
    · rw [if_pos hm]
      have : q pre.length a = false := by rw [h1]; simp [hm]
      simpa [this] using ih
    · rw [if_neg hm]
      have : q pre.length a = true := by rw [h1]; simp [hm]
      simp only [this, if_true, List.map_cons, ih]
theorem last_drop (ds : List Ad) {n : Nat} {x : Ad} (hx : ds[n]? = some x) : decide (lastP ds ds.length x = some n) = decide (x ∉ ds.drop (n + 1)) := by
  have hn := (List.getElem?_eq_some_iff.1 hx).1
  refine decide_eq_decide.2 ?_
  rw [lastP_iff]
  constructor
  · rintro ⟨_, _, h⟩ hm
    obtain ⟨i, hi, e⟩ := List.getElem_of_mem hm
    rw [List.length_drop] at hi
    rw [List.getElem_drop] at e
    exact h (n + 1 + i) (by omega) (by omega) (by rw [List.getElem?_eq_getElem (by omega), e])
  · intro h
    refine ⟨hn, hx, fun i h1 h2 e => h ?_⟩
    obtain ⟨h3, e3⟩ := List.getElem?_eq_some_iff.1 e
    have : (ds.drop (n + 1))[i - (n + 1)]? = some x := by rw [List.getElem?_drop, show n + 1 + (i - (n + 1)) = i by omega, e]
    exact List.mem_of_getElem? this
theorem pick_once (ds : List Ad) (q : Nat → Ad → Bool) (h : ∀ n x, ds[n]? = some x → q n x = decide (lastP ds ds.length x = some n)) : pick q ds = onceL ds :=
  once_from q ds [] (fun n x hx => by
    have hx2 : ds[n]? = some x := hx
    rw [h n x hx2, last_drop ds hx2]; rfl)

theorem heal_app (ds : List Ad) : ∀ l m : List Sc, healS (l ++ m) ds = healS l ds ++ healS m ds := by
  induction ds with
  | nil => intro l m; rfl
  | cons a ds ih =>
    intro l m
    show healS (outS (l ++ m) a) ds = _
    rw [out_app, ih]; rfl
theorem heal_lone (t : Int) (a : Ad) : ∀ ds : List Ad, healS [⟨a, t⟩] ds = if a ∈ ds then [] else [⟨a, t⟩]
  | [] => by simp [healS]
  | b :: ds => by
    show healS (outS [⟨a, t⟩] b) ds = _
    by_cases h : a = b
    · subst h
      rw [out_self, if_pos (by simp)]
      have : ∀ ds : List Ad, healS [] ds = [] := fun ds => by
        induction ds with
        | nil => rfl
        | cons a ds ih => exact ih
      exact this ds
    · rw [out_other h, heal_lone t a ds]
      simp [h]
/-- Notes one behind the other, and all at once. -/
theorem note_fold (t : Int) : ∀ (ds : List Ad) (l : List Sc), ds.foldl (oneS t) l = healS l ds ++ (onceL ds).map (fun a => (⟨a, t⟩ : Sc))
  | [], l => by simp [healS, onceL]
  | a :: ds, l => by
    show ds.foldl (oneS t) (oneS t l a) = _
    rw [note_fold t ds]
    show healS (outS l a ++ [⟨a, t⟩]) ds ++ _ = healS (outS l a) ds ++ _
    rw [heal_app, heal_lone, List.append_assoc]
    congr 1
    show (if a ∈ ds then [] else [(⟨a, t⟩ : Sc)]) ++ (onceL ds).map (fun a => (⟨a, t⟩ : Sc)) = (if a ∈ ds then onceL ds else a :: onceL ds).map (fun a => (⟨a, t⟩ : Sc))
    by_cases h : a ∈ ds
    · rw [if_pos h, if_pos h]; rfl
    · rw [if_neg h, if_neg h]; rfl
theorem heal_filter (ds : List Ad) : ∀ l : List Sc, healS l ds = l.filter (fun x => !decide (x.ad ∈ ds)) := by
  induction ds with
  | nil => intro l; exact (List.filter_eq_self.2 (by simp)).symm
  | cons a ds ih =>
    intro l
    show healS (outS l a) ds = _
    rw [ih]
    unfold outS
    rw [List.filter_filter]
    refine List.filter_congr fun x _ => ?_
    unfold offS
    by_cases h1 : x.ad = a <;> by_cases h2 : x.ad ∈ ds <;> simp [h1, h2]
theorem has_all (l : List Sc) (g n : Int) (ds : List Ad) : hasS l g n ds = true ↔ ∀ a ∈ ds, ∃ x ∈ freshS l g n, x.ad = a := by
  unfold hasS
  rw [List.all_eq_true]
  constructor
  · intro h a ha
    obtain ⟨x, hx, e⟩ := List.any_eq_true.1 (h a ha)
    exact ⟨x, hx, by simpa using e⟩
  · intro h a ha
    obtain ⟨x, hx, e⟩ := h a ha
    exact List.any_eq_true.2 ⟨x, hx, by simpa using e⟩
end Go.Proofs.Ytipbkhbdnjhofaa
