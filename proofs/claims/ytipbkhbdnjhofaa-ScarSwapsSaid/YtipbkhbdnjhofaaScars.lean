/- For layer 12, about lists alone: scars. -/
import Derived.Test.YtipbkhbdnjhofaaAge1
import Derived.Test.YtipbkhbdnjhofaaPure
set_option linter.unusedSimpArgs false
set_option linter.unusedVariables false
namespace Go.Proofs.Ytipbkhbdnjhofaa
open R3

def offS (a : Ad) (x : Sc) : Bool := decide (x.ad ≠ a)
def outS (l : List Sc) (a : Ad) : List Sc := l.filter (offS a)
def oneS (n : Int) (l : List Sc) (a : Ad) : List Sc := outS l a ++ [⟨a, n⟩]
def lastS (l : List Sc) : List Sc := l.drop (l.length - 32)
def noteS (l : List Sc) (n : Int) (ds : List Ad) : List Sc := lastS (ds.foldl (oneS n) l)
def healS (l : List Sc) (ds : List Ad) : List Sc := ds.foldl outS l
def liveS (g n : Int) (x : Sc) : Bool := !P.old x.at_ g n
def freshS (l : List Sc) (g n : Int) : List Sc := l.filter (liveS g n)
def hasS (l : List Sc) (g n : Int) (ds : List Ad) : Bool := ds.all (fun a => (freshS l g n).any (fun x => decide (x.ad = a)))
def worstS (l : List Sc) (g n : Int) : Option Sc := (freshS l g n).getLast?

theorem out_len (l : List Sc) (a : Ad) : (outS l a).length ≤ l.length := List.length_filter_le _ _
theorem one_len (n : Int) (l : List Sc) (a : Ad) : (oneS n l a).length ≤ l.length + 1 := by
  have := out_len l a
  simp only [oneS, List.length_append, List.length_cons, List.length_nil]; omega
theorem all_len (n : Int) : ∀ (ds : List Ad) (l : List Sc), (ds.foldl (oneS n) l).length ≤ l.length + ds.length
  | [], l => by simp
  | a :: ds, l => by
    have h1 := all_len n ds (oneS n l a)
    have h2 := one_len n l a
    simp only [List.foldl_cons, List.length_cons]; omega
theorem heal_len : ∀ (ds : List Ad) (l : List Sc), (healS l ds).length ≤ l.length
  | [], l => Nat.le_refl _
  | a :: ds, l => Nat.le_trans (heal_len ds (outS l a)) (out_len l a)
theorem last_len (l : List Sc) : (lastS l).length = min l.length 32 := by simp only [lastS, List.length_drop]; omega
theorem last_id {l : List Sc} (h : l.length ≤ 32) : lastS l = l := by
  unfold lastS
  rw [show l.length - 32 = 0 by omega]; rfl
theorem note_len (l : List Sc) (n : Int) (ds : List Ad) : (noteS l n ds).length ≤ 32 := by unfold noteS; rw [last_len]; omega
theorem note_le (l : List Sc) (n : Int) (ds : List Ad) : (noteS l n ds).length ≤ l.length + ds.length := by
  unfold noteS; rw [last_len]
  have := all_len n ds l
  omega
theorem fresh_len (l : List Sc) (g n : Int) : (freshS l g n).length ≤ l.length := List.length_filter_le _ _
theorem heal_two (l : List Sc) (a b : Ad) : healS l [a, b] = outS (outS l a) b := rfl
theorem out_swap (l : List Sc) (a b : Ad) : outS (outS l a) b = outS (outS l b) a := by
  unfold outS
  rw [List.filter_filter, List.filter_filter]
  congr 1
  funext x
  exact Bool.and_comm _ _
theorem out_out (l : List Sc) (a : Ad) : outS (outS l a) a = outS l a := by
  unfold outS
  rw [List.filter_filter]
  congr 1
  funext x
  exact Bool.and_self _
theorem out_app (l m : List Sc) (a : Ad) : outS (l ++ m) a = outS l a ++ outS m a := List.filter_append _ _
theorem out_self (a : Ad) (n : Int) : outS [⟨a, n⟩] a = [] := by simp [outS, offS]
theorem out_other {a b : Ad} (h : a ≠ b) (n : Int) : outS [⟨a, n⟩] b = [⟨a, n⟩] := by simp [outS, offS, h]
/-- Whether an address has a scar: by lengths, and by looking. -/
theorem out_same {l : List Sc} {a : Ad} : (outS l a).length = l.length ↔ l.any (fun x => decide (x.ad = a)) = false := by
  unfold outS
  rw [List.length_filter_eq_length_iff]
  simp [offS]
theorem mem_out {l : List Sc} {a : Ad} {x : Sc} : x ∈ outS l a ↔ x ∈ l ∧ x.ad ≠ a := by simp [outS, offS]

/-! ScarHeals. -/
theorem fresh_out (l : List Sc) (g n : Int) (a : Ad) : freshS (outS l a) g n = outS (freshS l g n) a := by
  unfold freshS outS
  rw [List.filter_filter, List.filter_filter]
  congr 1
  funext x
  exact Bool.and_comm _ _
theorem has_out (l : List Sc) (g n : Int) (a : Ad) : hasS (outS l a) g n [a] = false := by
  unfold hasS
  rw [fresh_out]
  simp only [List.all_cons, List.all_nil, Bool.and_true]
  rw [List.any_eq_false]
  intro x hx
  have := (mem_out.1 hx).2
  simp [this]
theorem note_one (l : List Sc) (n : Int) (a : Ad) : ∃ m, noteS l n [a] = m ++ [⟨a, n⟩] ∧ ∀ x ∈ m, x.ad ≠ a := by
  refine ⟨(outS l a).drop (((oneS n l a).length) - 32), ?_, fun x hx => (mem_out.1 (List.mem_of_mem_drop hx)).2⟩
  show lastS (oneS n l a) = _
  unfold lastS oneS
  rw [List.drop_append_of_le_length (by simp only [List.length_append, List.length_cons, List.length_nil]; omega)]
theorem has_note (l : List Sc) (n g m : Int) (a : Ad) : hasS (noteS l n [a]) g m [a] = !P.old n g m := by
  obtain ⟨r, h, hr⟩ := note_one l n a
  unfold hasS
  rw [h]
  simp only [List.all_cons, List.all_nil, Bool.and_true]
  cases ho : P.old n g m with
  | true =>
    show _ = false
    rw [List.any_eq_false]
    intro x hx
    obtain ⟨hx1, hx2⟩ := List.mem_filter.1 hx
    rcases List.mem_append.1 hx1 with h1 | h1
    · simp [hr x h1]
    · obtain rfl := List.mem_singleton.1 h1
      simp [liveS, ho] at hx2
  | false =>
    show _ = true
    rw [List.any_eq_true]
    exact ⟨⟨a, n⟩, List.mem_filter.2 ⟨by simp, by simp [liveS, ho]⟩, by simp⟩
theorem old_plain {s g n : Int} (h0 : 0 ≤ s) (h1 : s ≤ 2000000) (h2 : 0 ≤ g) (h3 : g ≤ 2000000) (h4 : 0 ≤ n) (h5 : n ≤ 4000000) : P.old s g n = decide (s + g ≤ n) := by
  have e1 : P.clamp s = s := P.clamp_id _ h0 (by omega)
  have e2 : P.clamp g = g := P.clamp_id _ h2 (by omega)
  have e3 : P.clamp n = n := P.clamp_id _ h4 (by omega)
  have e4 : P.clamp (s + g) = s + g := P.clamp_id _ (by omega) (by omega)
  unfold P.old P.plus
  rw [e1, e2, e3, e4]
/-- The k-th that stays, while the first i are looked at. -/
theorem filter_at {α : Type} (p : α → Bool) (l : List α) (i : Nat) (x : α) (hx : l[i]? = some x) (hp : p x = true) : (l.filter p)[((l.take i).filter p).length]? = some x := by
  obtain ⟨hi, he⟩ := List.getElem?_eq_some_iff.1 hx
  have h1 : l.filter p = (l.take i).filter p ++ (l.drop i).filter p := by rw [← List.filter_append, List.take_append_drop]
  have h2 : (l.drop i).filter p = x :: (l.drop (i + 1)).filter p := by
    rw [List.drop_eq_getElem_cons hi, he, List.filter_cons_of_pos hp]
  rw [h1, List.getElem?_append_right (Nat.le_refl _), h2]
  simp
theorem filter_step {α : Type} (p : α → Bool) (l : List α) (i : Nat) (x : α) (hx : l[i]? = some x) : ((l.take (i + 1)).filter p).length = ((l.take i).filter p).length + if p x then 1 else 0 := by
  rw [List.take_add_one, hx, List.filter_append, List.length_append]
  cases h : p x <;> simp [h]

/-! ScarFresh. -/
theorem old_later {s g n m : Int} (h : n ≤ m) (ho : P.old s g n = true) : P.old s g m = true := by
  unfold P.old at ho ⊢
  simp only [decide_eq_true_eq] at ho ⊢
  have : P.clamp n ≤ P.clamp m := by unfold P.clamp; (repeat' split) <;> omega
  omega
theorem fresh_later (l : List Sc) (g : Int) {n m : Int} (h : n ≤ m) : List.Sublist (freshS l g m) (freshS l g n) := by
  unfold freshS
  induction l with
  | nil => exact List.Sublist.slnil
  | cons x l ih =>
    rw [List.filter_cons, List.filter_cons]
    cases h1 : liveS g m x with
    | true =>
      have h2 : liveS g n x = true := by
        cases h3 : P.old x.at_ g n with
        | true => have := old_later h h3; simp [liveS, this] at h1
        | false => simp [liveS, h3]
      simp only [h2, if_true]
      exact ih.cons_cons x
    | false =>
      simp only [Bool.false_eq_true, if_false]
      split
      · exact ih.cons x
      · exact ih
/-- A row that lies in another, found step by step. -/
theorem sub_yes {α : Type} {l m : List α} {i k : Nat} {x : α} (h : List.Sublist (m.drop k) (l.drop i)) (hx : l[i]? = some x) (hy : m[k]? = some x) : List.Sublist (m.drop (k + 1)) (l.drop (i + 1)) := by
  obtain ⟨h1, e1⟩ := List.getElem?_eq_some_iff.1 hx
  obtain ⟨h2, e2⟩ := List.getElem?_eq_some_iff.1 hy
  rw [List.drop_eq_getElem_cons h1, List.drop_eq_getElem_cons h2, e1, e2] at h
  exact List.cons_sublist_cons.1 h
theorem sub_no {α : Type} {l m : List α} {i k : Nat} {x y : α} (h : List.Sublist (m.drop k) (l.drop i)) (hx : l[i]? = some x) (hy : m[k]? = some y) (hn : x ≠ y) : List.Sublist (m.drop k) (l.drop (i + 1)) := by
  obtain ⟨h1, e1⟩ := List.getElem?_eq_some_iff.1 hx
  obtain ⟨h2, e2⟩ := List.getElem?_eq_some_iff.1 hy
  rw [List.drop_eq_getElem_cons h1, e1] at h
  rw [List.drop_eq_getElem_cons h2, e2] at h ⊢
  rcases List.sublist_cons_iff.1 h with h3 | ⟨r, h3, _⟩
  · exact h3
  · exact absurd (List.cons.inj h3).1.symm hn
theorem sub_end {α : Type} {l m : List α} {i k : Nat} (h : List.Sublist (m.drop k) (l.drop i)) (hi : l.length ≤ i) : m.length ≤ k := by
  rw [List.drop_eq_nil_of_le hi] at h
  have := List.drop_eq_nil_iff.1 (List.sublist_nil.1 h)
  exact this

/-! ScarSwaps. -/
theorem note_two (l : List Sc) (n : Int) {a b : Ad} (hl : l.length ≤ 30) (h : a ≠ b) : noteS l n [a, b] = outS (outS l a) b ++ [⟨a, n⟩, ⟨b, n⟩] := by
  have e : [a, b].foldl (oneS n) l = outS (outS l a) b ++ [⟨a, n⟩, ⟨b, n⟩] := by
    show oneS n (oneS n l a) b = _
    unfold oneS
    rw [out_app, out_other h]
    simp
  unfold noteS
  rw [e]
  apply last_id
  have h1 := out_len l a
  have h2 := out_len (outS l a) b
  simp only [List.length_append, List.length_cons, List.length_nil]
  omega
theorem heal_noted (l : List Sc) (n : Int) {a b : Ad} (h : a ≠ b) : healS (outS (outS l a) b ++ [⟨a, n⟩, ⟨b, n⟩]) [b, a] = outS (outS l a) b := by
  rw [heal_two, out_app, out_app]
  have e1 : outS (outS [(⟨a, n⟩ : Sc), ⟨b, n⟩] b) a = [] := by simp [outS, offS]
  rw [e1, List.append_nil, out_out, out_swap (outS l a) b a, out_out]
/-! ScarOnce. -/
structure Once (ds : List Ad) (k : Nat) (l : List Sc) : Prop where
  rise : l.Pairwise (fun x y => x.at_ < y.at_)
  apart : l.Pairwise (fun x y => x.ad ≠ y.ad)
  src : ∀ x ∈ l, ∃ j : Nat, j < k ∧ x.at_ = j ∧ ds[j]? = some x.ad ∧ ∀ i, j < i → i < k → ds[i]? ≠ some x.ad
  many : l.length ≤ 32
  all : l.length < 32 → ∀ j a, j < k → ds[j]? = some a → ∃ x ∈ l, x.ad = a
theorem once_zero (ds : List Ad) : Once ds 0 [] := ⟨List.Pairwise.nil, List.Pairwise.nil, fun _ h => by simp at h, by simp, fun _ j a h => by omega⟩
theorem out_many {l : List Sc} (h : l.Pairwise (fun x y => x.ad ≠ y.ad)) (a : Ad) : l.length ≤ (outS l a).length + 1 := by
  induction l with
  | nil => simp
  | cons x l ih =>
    obtain ⟨h1, h2⟩ := List.pairwise_cons.1 h
    by_cases hx : x.ad = a
    · have e : outS l a = l := by
        unfold outS
        rw [List.filter_eq_self]
        intro y hy
        have := h1 y hy
        simp only [offS, decide_eq_true_eq]
        exact fun e => this (by rw [hx, e])
      have e2 : outS (x :: l) a = l := by
        unfold outS at e ⊢
        rw [List.filter_cons_of_neg (by simp [offS, hx])]
        exact e
      rw [e2]; simp
    · have e2 : outS (x :: l) a = x :: outS l a := by
        unfold outS
        rw [List.filter_cons_of_pos (by simp [offS, hx])]
      rw [e2]
      have := ih h2
      simp only [List.length_cons]; omega
theorem once_step {ds : List Ad} {k : Nat} {l : List Sc} {a : Ad} (h : Once ds k l) (ha : ds[k]? = some a) : Once ds (k + 1) (noteS l k [a]) := by
  obtain ⟨m, hm, hma⟩ : ∃ m, noteS l k [a] = m ++ [⟨a, (k : Int)⟩] ∧ ∃ d, m = (outS l a).drop d ∧ (d = 0 ∨ (noteS l k [a]).length = 32) := by
    refine ⟨(outS l a).drop (((oneS (k : Int) l a).length) - 32), ?_, _, rfl, ?_⟩
    · show lastS (oneS (k : Int) l a) = _
      unfold lastS oneS
      rw [List.drop_append_of_le_length (by simp only [List.length_append, List.length_cons, List.length_nil]; omega)]
    · have : (noteS l k [a]).length = min (oneS (k : Int) l a).length 32 := last_len _
      omega
  obtain ⟨d, hd, hd2⟩ := hma
  have hsub : ∀ x ∈ m, x ∈ l ∧ x.ad ≠ a := fun x hx => by rw [hd] at hx; exact mem_out.1 (List.mem_of_mem_drop hx)
  have hsl : List.Sublist m l := by rw [hd]; exact (List.drop_sublist _ _).trans List.filter_sublist
  have hlen := note_len l k [a]
  refine ⟨?_, ?_, ?_, hlen, ?_⟩
  · rw [hm, List.pairwise_append]
    refine ⟨h.rise.sublist hsl, List.pairwise_singleton _ _, fun x hx y hy => ?_⟩
    obtain rfl := List.mem_singleton.1 hy
    obtain ⟨j, hj, e, _⟩ := h.src x (hsub x hx).1
    show x.at_ < (k : Int)
    omega
  · rw [hm, List.pairwise_append]
    refine ⟨h.apart.sublist hsl, List.pairwise_singleton _ _, fun x hx y hy => ?_⟩
    obtain rfl := List.mem_singleton.1 hy
    exact (hsub x hx).2
  · intro x hx
    rw [hm] at hx
    rcases List.mem_append.1 hx with h1 | h1
    · obtain ⟨j, hj, e, e2, e3⟩ := h.src x (hsub x h1).1
      refine ⟨j, by omega, e, e2, fun i hi hk => ?_⟩
      by_cases hik : i = k
      · subst hik
        rw [ha]
        exact fun e => (hsub x h1).2 (Option.some.inj e).symm
      · exact e3 i hi (by omega)
    · obtain rfl := List.mem_singleton.1 h1
      exact ⟨k, by omega, rfl, ha, fun i hi hk => by omega⟩
  · intro hlt j b hj hb
    rcases hd2 with rfl | h32
    · have hm0 : m = outS l a := hd
      rw [hm] at hlt ⊢
      by_cases hba : b = a
      · exact ⟨⟨a, (k : Int)⟩, by simp, hba.symm⟩
      · have hl : l.length < 32 := by
          have := out_many h.apart a
          rw [hm0] at hlt
          simp only [List.length_append, List.length_cons, List.length_nil] at hlt
          omega
        by_cases hjk : j = k
        · subst hjk
          rw [ha] at hb
          exact absurd (Option.some.inj hb).symm hba
        · obtain ⟨x, hx, e⟩ := h.all hl j b (by omega) hb
          refine ⟨x, List.mem_append_left _ ?_, e⟩
          rw [hm0]
          exact mem_out.2 ⟨hx, by rw [e]; exact hba⟩
    · omega
theorem once_last {ds : List Ad} {k : Nat} {l : List Sc} {a : Ad} : (noteS l k [a]).getLast? = some ⟨a, (k : Int)⟩ := by
  obtain ⟨m, hm, _⟩ := note_one l k a
  rw [hm]; simp
theorem once_has {ds : List Ad} {k : Nat} {l : List Sc} {a : Ad} (h : Once ds k l) (hk : k ≤ 60) (hl : l.length < 32) {j : Nat} (hj : j < k) (ha : ds[j]? = some a) : hasS l 100 k [a] = true := by
  obtain ⟨x, hx, e⟩ := h.all hl j a hj ha
  obtain ⟨i, hi, e2, _⟩ := h.src x hx
  unfold hasS
  simp only [List.all_cons, List.all_nil, Bool.and_true]
  rw [List.any_eq_true]
  refine ⟨x, List.mem_filter.2 ⟨hx, ?_⟩, by simp [e]⟩
  unfold liveS
  rw [e2, old_plain (by omega) (by omega) (by omega) (by omega) (by omega) (by omega)]
  simp only [Bool.not_eq_true', decide_eq_false_iff_not]
  omega
end Go.Proofs.Ytipbkhbdnjhofaa
