/- For layer 13, about lists alone: what stands once, families in turn, the list of addresses. Nothing here knows the program. -/
set_option linter.unusedSimpArgs false
set_option linter.unusedVariables false
namespace Go.Proofs.Ytcihcdifjnobjaa.Turn
theorem snoc_rec {β : Type} {P : List β → Prop} (h0 : P []) (hs : ∀ l x, P l → P (l ++ [x])) : ∀ l, P l := fun l => by
  rw [← List.reverse_reverse l]
  induction l.reverse with
  | nil => exact h0
  | cons x t ih => rw [List.reverse_cons]; exact hs _ _ ih
section
variable {α : Type} [DecidableEq α]

/-- Each once, in order. -/
def once (l : List α) : List α := l.foldl (fun o x => if x ∈ o then o else o ++ [x]) []
theorem once_snoc (l : List α) (x : α) : once (l ++ [x]) = if x ∈ once l then once l else once l ++ [x] := by unfold once; rw [List.foldl_append]; rfl
theorem mem_once (l : List α) : ∀ a, a ∈ once l ↔ a ∈ l := by
  refine snoc_rec (P := fun l => ∀ a, a ∈ once l ↔ a ∈ l) (by simp [once]) (fun l x ih a => ?_) l
  rw [once_snoc]
  split
  · rename_i h
    rw [ih, List.mem_append, List.mem_singleton]
    constructor
    · exact .inl
    · rintro (h2 | rfl)
      · exact h2
      · exact (ih _).1 h
  · rw [List.mem_append, List.mem_append, ih]
theorem once_nodup (l : List α) : (once l).Nodup := by
  refine snoc_rec (P := fun l => (once l).Nodup) (by simp [once]) (fun l x ih => ?_) l
  rw [once_snoc]
  split
  · exact ih
  · rename_i h
    rw [List.nodup_append]
    refine ⟨ih, by simp, fun a ha b hb => ?_⟩
    rw [List.mem_singleton] at hb
    subst hb
    exact fun e => h (e ▸ ha)
theorem once_id {l : List α} : l.Nodup → once l = l := by
  refine snoc_rec (P := fun l => l.Nodup → once l = l) (fun _ => rfl) (fun l x ih h => ?_) l
  rw [List.nodup_append] at h
  rw [once_snoc, ih h.1, if_neg]
  intro hx
  exact h.2.2 x hx x (by simp) rfl
theorem once_len (l : List α) : (once l).length ≤ l.length := by
  refine snoc_rec (P := fun l => (once l).length ≤ l.length) (by simp [once]) (fun l x ih => ?_) l
  rw [once_snoc]
  split <;> simp <;> omega
theorem once_more {l m : List α} (hl : l.Nodup) (hm : ∀ y ∈ m, y ∈ l) : once (l ++ m) = l := by
  refine snoc_rec (P := fun m => (∀ y ∈ m, y ∈ l) → once (l ++ m) = l) (fun _ => by rw [List.append_nil, once_id hl]) (fun m x ih h => ?_) m hm
  have h1 := ih (fun y hy => h y (List.mem_append_left _ hy))
  rw [← List.append_assoc, once_snoc, h1, if_pos (h x (by simp))]
/-- Where it stands first; as many as there are, if nowhere. -/
theorem idx_snoc {l : List α} {a x : α} (h : a ∈ l) : (l ++ [x]).idxOf a = l.idxOf a := by rw [List.idxOf_append, if_pos h]
theorem once_rise (l : List α) : (once l).Pairwise (fun a b => l.idxOf a < l.idxOf b) := by
  refine snoc_rec (P := fun l => (once l).Pairwise (fun a b => l.idxOf a < l.idxOf b)) (by simp [once]) (fun l x ih => ?_) l
  have hold : (once l).Pairwise (fun a b => (l ++ [x]).idxOf a < (l ++ [x]).idxOf b) := by
    refine List.Pairwise.imp_of_mem (fun ha hb h => ?_) ih
    rw [idx_snoc ((mem_once l _).1 ha), idx_snoc ((mem_once l _).1 hb)]
    exact h
  rw [once_snoc]
  split
  · exact hold
  · rename_i h
    rw [List.pairwise_append]
    refine ⟨hold, by simp, fun a ha b hb => ?_⟩
    rw [List.mem_singleton] at hb
    subst hb
    have ha' := (mem_once l _).1 ha
    have hb' : b ∉ l := fun e => h ((mem_once l _).2 e)
    rw [idx_snoc ha', List.idxOf_append, if_neg hb']
    have := List.idxOf_lt_length_of_mem ha'
    omega

end
/-! Families in turn. -/
section
variable {α : Type} (fam : α → Int)
def inF (f : Int) (x : α) : Bool := decide (fam x = f)
def fq (l : List α) (f : Int) : List α := l.filter (inF fam f)
def kinds (l : List α) : List Int := once (l.map fam)
def heads (qs : List (List α)) : List α := qs.filterMap List.head?
def rounds : Nat → List (List α) → List α
  | 0, _ => []
  | n + 1, qs => heads qs ++ rounds n (qs.map List.tail)
def turns (l : List α) : List α := rounds l.length ((kinds fam l).map (fq fam l))
variable {fam}
theorem mem_kinds {l : List α} {f : Int} : f ∈ kinds fam l ↔ ∃ x ∈ l, fam x = f := by unfold kinds; rw [mem_once, List.mem_map]
theorem fq_fam {l : List α} {f : Int} {x : α} (h : x ∈ fq fam l f) : fam x = f := by
  have := (List.mem_filter.1 h).2
  simpa [inF] using this
theorem heads_filter (f : Int) (q : Int → List α) : ∀ (fs : List Int), fs.Nodup → (∀ g ∈ fs, ∀ x ∈ q g, fam x = g) → (heads (fs.map q)).filter (inF fam f) = if f ∈ fs then (q f).head?.toList else []
  | [], _, _ => by simp [heads]
  | g :: fs, hn, hq => by
    have hn' := List.nodup_cons.1 hn
    have ih := heads_filter f q fs hn'.2 (fun g' hg' => hq g' (List.mem_cons_of_mem _ hg'))
    have e : heads ((g :: fs).map q) = (q g).head?.toList ++ heads (fs.map q) := by
      unfold heads
      rw [List.map_cons, List.filterMap_cons]
      cases (q g).head? <;> rfl
    rw [e, List.filter_append, ih]
    by_cases hfg : f = g
    · subst hfg
      rw [if_neg hn'.1, if_pos (by simp), List.append_nil]
      cases hh : (q f).head? with
      | none => rfl
      | some x =>
        have hx : x ∈ q f := List.mem_of_mem_head? (by rw [hh]; rfl)
        simp [inF, hq f (by simp) x hx]
    · have h0 : (q g).head?.toList.filter (inF fam f) = [] := by
        cases hh : (q g).head? with
        | none => rfl
        | some x =>
          have hx : x ∈ q g := List.mem_of_mem_head? (by rw [hh]; rfl)
          simp [inF, hq g (by simp) x hx, Ne.symm hfg]
      rw [h0, List.nil_append]
      simp [hfg]
theorem rounds_filter (f : Int) : ∀ (n : Nat) (fs : List Int) (q : Int → List α), fs.Nodup → (∀ g ∈ fs, ∀ x ∈ q g, fam x = g) → (∀ g ∈ fs, (q g).length ≤ n) → (rounds n (fs.map q)).filter (inF fam f) = if f ∈ fs then q f else []
  | 0, fs, q, _, _, hl => by
    simp only [rounds, List.filter_nil]
    split
    · rename_i h
      exact (List.eq_nil_of_length_eq_zero (Nat.le_zero.1 (hl f h))).symm
    · rfl
  | n + 1, fs, q, hn, hq, hl => by
    have ih := rounds_filter f n fs (fun g => (q g).tail) hn (fun g hg x hx => hq g hg x (List.mem_of_mem_tail hx)) (fun g hg => by have := hl g hg; simp only [List.length_tail]; omega)
    rw [rounds, List.filter_append, heads_filter f q fs hn hq]
    rw [show (fs.map q).map List.tail = fs.map (fun g => (q g).tail) by rw [List.map_map]; rfl, ih]
    split
    · cases q f <;> rfl
    · rfl
theorem turns_filter (l : List α) (f : Int) : (turns fam l).filter (inF fam f) = l.filter (inF fam f) := by
  have h0 := rounds_filter (fam := fam) f l.length (kinds fam l) (fq fam l) (once_nodup _) (fun g _ x hx => fq_fam hx) (fun g _ => List.length_filter_le _ _)
  show (rounds l.length ((kinds fam l).map (fq fam l))).filter (inF fam f) = _
  rw [h0]
  split
  · rfl
  · rename_i h
    symm
    rw [List.filter_eq_nil_iff]
    intro x hx hf
    exact h (mem_kinds.2 ⟨x, hx, by simpa [inF] using hf⟩)
theorem part_len (l : List α) (p : α → Bool) : (l.filter p).length + (l.filter (fun x => !p x)).length = l.length := by
  induction l with
  | nil => rfl
  | cons x t ih => cases h : p x <;> simp [List.filter_cons, h] <;> omega
theorem heads_fam (q : Int → List α) : ∀ (fs : List Int), (∀ g ∈ fs, ∀ x ∈ q g, fam x = g) → (∀ g ∈ fs, q g ≠ []) → (heads (fs.map q)).map fam = fs
  | [], _, _ => rfl
  | g :: fs, hq, hne => by
    have ih := heads_fam q fs (fun g' hg' => hq g' (List.mem_cons_of_mem _ hg')) (fun g' hg' => hne g' (List.mem_cons_of_mem _ hg'))
    unfold heads at ih ⊢
    rw [List.map_cons, List.filterMap_cons]
    cases hh : q g with
    | nil => exact absurd hh (hne g (by simp))
    | cons x t =>
      simp only [List.head?_cons, List.map_cons]
      rw [ih, hq g (by simp) x (by rw [hh]; simp)]
end
section
variable {α : Type} [DecidableEq α] {fam : α → Int}
theorem turns_perm (l : List α) : (turns fam l).Perm l := by
  rw [List.perm_iff_count]
  intro a
  have h := turns_filter (fam := fam) l (fam a)
  have e : ∀ m : List α, (m.filter (inF fam (fam a))).count a = m.count a := fun m => List.count_filter (by simp [inF])
  rw [← e, h, e]
theorem turns_len (l : List α) : (turns fam l).length = l.length := (turns_perm l).length_eq
theorem mem_turns {l : List α} {a : α} : a ∈ turns fam l ↔ a ∈ l := (turns_perm l).mem_iff
theorem turns_nodup {l : List α} (h : l.Nodup) : (turns fam l).Nodup := (turns_perm l).nodup_iff.2 h
theorem kinds_turns (l : List α) : kinds fam (turns fam l) = kinds fam l := by
  cases l with
  | nil => rfl
  | cons y t =>
    have e : turns fam (y :: t) = heads ((kinds fam (y :: t)).map (fq fam (y :: t))) ++ rounds t.length (((kinds fam (y :: t)).map (fq fam (y :: t))).map List.tail) := rfl
    have hf := heads_fam (fam := fam) (fq fam (y :: t)) (kinds fam (y :: t)) (fun g _ x hx => fq_fam hx) (fun g hg h0 => by
      obtain ⟨x, hx, hxf⟩ := mem_kinds.1 hg
      have : x ∈ fq fam (y :: t) g := List.mem_filter.2 ⟨hx, by simp [inF, hxf]⟩
      rw [h0] at this
      simp at this)
    have hall : ∀ z ∈ turns fam (y :: t), fam z ∈ kinds fam (y :: t) := fun z hz => mem_kinds.2 ⟨z, mem_turns.1 hz, rfl⟩
    rw [e] at hall ⊢
    unfold kinds at hf ⊢
    rw [List.map_append, hf]
    refine once_more (once_nodup _) (fun z hz => ?_)
    obtain ⟨w, hw, rfl⟩ := List.mem_map.1 hz
    exact hall w (List.mem_append_right _ hw)
theorem turns_turns (l : List α) : turns fam (turns fam l) = turns fam l := by
  have hq : fq fam (turns fam l) = fq fam l := funext fun f => turns_filter l f
  show rounds (turns fam l).length ((kinds fam (turns fam l)).map (fq fam (turns fam l))) = _
  rw [turns_len, kinds_turns, hq]
  rfl
/-! The list. -/
variable (fam)
def good (l bad : List α) : List α := (once l).filter (fun x => decide (x ∉ bad))
def ill (l bad : List α) : List α := (once l).filter (fun x => decide (x ∈ bad))
def list (l bad : List α) : List α := turns fam (good l bad) ++ turns fam (ill l bad)
variable {fam}
theorem mem_good {l bad : List α} {a : α} : a ∈ good l bad ↔ a ∈ l ∧ a ∉ bad := by unfold good; rw [List.mem_filter, mem_once]; simp
theorem mem_ill {l bad : List α} {a : α} : a ∈ ill l bad ↔ a ∈ l ∧ a ∈ bad := by unfold ill; rw [List.mem_filter, mem_once]; simp
theorem mem_list {l bad : List α} {a : α} : a ∈ list fam l bad ↔ a ∈ l := by
  unfold list
  rw [List.mem_append, mem_turns, mem_turns, mem_good, mem_ill]
  by_cases h : a ∈ bad <;> simp [h]
theorem list_nodup (l bad : List α) : (list fam l bad).Nodup := by
  unfold list
  rw [List.nodup_append]
  refine ⟨turns_nodup ((once_nodup l).filter _), turns_nodup ((once_nodup l).filter _), fun a ha b hb e => ?_⟩
  subst e
  exact (mem_good.1 (mem_turns.1 ha)).2 (mem_ill.1 (mem_turns.1 hb)).2
theorem list_len (l bad : List α) : (list fam l bad).length = (once l).length := by
  unfold list
  rw [List.length_append, turns_len, turns_len]
  have h := part_len (once l) (fun x => decide (x ∉ bad))
  have e : (fun x => !decide (x ∉ bad)) = (fun x => decide (x ∈ bad)) := funext fun x => by by_cases hx : x ∈ bad <;> simp [hx]
  rw [e] at h
  exact h
theorem list_le (l bad : List α) : (list fam l bad).length ≤ l.length := by rw [list_len]; exact once_len l
theorem list_list (l bad : List α) : list fam (list fam l bad) bad = list fam l bad := by
  have ho : once (list fam l bad) = list fam l bad := once_id (list_nodup l bad)
  have hg : good (list fam l bad) bad = turns fam (good l bad) := by
    unfold good
    rw [ho]
    show (turns fam (good l bad) ++ turns fam (ill l bad)).filter _ = _
    rw [List.filter_append, List.filter_eq_self.2 (fun x hx => by simpa using (mem_good.1 (mem_turns.1 hx)).2), List.filter_eq_nil_iff.2 (fun x hx => by simpa using (mem_ill.1 (mem_turns.1 hx)).2), List.append_nil]
    rfl
  have hi : ill (list fam l bad) bad = turns fam (ill l bad) := by
    unfold ill
    rw [ho]
    show (turns fam (good l bad) ++ turns fam (ill l bad)).filter _ = _
    rw [List.filter_append, List.filter_eq_nil_iff.2 (fun x hx => by simpa using (mem_good.1 (mem_turns.1 hx)).2), List.filter_eq_self.2 (fun x hx => by simpa using (mem_ill.1 (mem_turns.1 hx)).2), List.nil_append]
    rfl
  show turns fam (good (list fam l bad) bad) ++ turns fam (ill (list fam l bad) bad) = _
  rw [hg, hi, turns_turns, turns_turns]
  rfl
/-- Within a family the order stays. -/
theorem turns_rise {l m : List α} (h : m.Pairwise (fun a b => l.idxOf a < l.idxOf b)) : (turns fam m).Pairwise (fun a b => fam a = fam b → l.idxOf a < l.idxOf b) := by
  rw [List.pairwise_iff_getElem]
  intro i j hi hj hij he
  have h1 := turns_filter (fam := fam) m (fam (turns fam m)[i])
  have h2 : ((turns fam m).filter (inF fam (fam (turns fam m)[i]))).Pairwise (fun a b => l.idxOf a < l.idxOf b) := by rw [h1]; exact h.filter _
  rw [List.pairwise_filter] at h2
  exact List.pairwise_iff_getElem.1 h2 i j hi hj hij (by simp [inF]) (by simp [inF, he])
theorem list_order (l bad : List α) : (list fam l bad).Pairwise (fun a b => (a ∈ bad → b ∈ bad) ∧ ((a ∈ bad ↔ b ∈ bad) → fam a = fam b → l.idxOf a < l.idxOf b)) := by
  unfold list
  rw [List.pairwise_append]
  have hg : (good l bad).Pairwise (fun a b => l.idxOf a < l.idxOf b) := (once_rise l).filter _
  have hi : (ill l bad).Pairwise (fun a b => l.idxOf a < l.idxOf b) := (once_rise l).filter _
  refine ⟨List.Pairwise.imp_of_mem (fun ha hb h => ⟨fun h1 => absurd h1 (mem_good.1 (mem_turns.1 ha)).2, fun _ => h⟩) (turns_rise hg), List.Pairwise.imp_of_mem (fun ha hb h => ⟨fun _ => (mem_ill.1 (mem_turns.1 hb)).2, fun _ => h⟩) (turns_rise hi), fun a ha b hb => ⟨fun _ => (mem_ill.1 (mem_turns.1 hb)).2, fun h => absurd (h.2 (mem_ill.1 (mem_turns.1 hb)).2) (mem_good.1 (mem_turns.1 ha)).2⟩⟩
end
end Go.Proofs.Ytcihcdifjnobjaa.Turn
