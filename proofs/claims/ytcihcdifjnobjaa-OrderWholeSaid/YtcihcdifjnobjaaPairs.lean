/- For layer 13, about lists alone: which one comes in which round. -/
import Derived.Test.YtcihcdifjnobjaaLandD
set_option linter.unusedSimpArgs false
set_option linter.unusedVariables false
namespace Go.Proofs.Ytcihcdifjnobjaa

/-- Those that are not at their end ahead of round r. -/
def befN (Q : List (List Ad)) (r : Nat) : List Nat := (List.range Q.length).filter (fun n => decide (r ≤ (Q.getD n []).length))
theorem bef_zero (Q : List (List Ad)) : befN Q 0 = List.range Q.length := by unfold befN; rw [List.filter_eq_self]; intro n _; simp
theorem bef_lt {Q : List (List Ad)} {r n : Nat} (h : n ∈ befN Q r) : n < Q.length := by
  have := (List.mem_filter.1 h).1
  simpa using this
theorem bef_has {Q : List (List Ad)} {r n : Nat} (h : n ∈ befN Q r) : r ≤ (Q.getD n []).length := by
  have := (List.mem_filter.1 h).2
  simpa using this
theorem bef_succ (Q : List (List Ad)) (r : Nat) : (befN Q r).filter (fun n => !decide ((Q.getD n []).length ≤ r)) = befN Q (r + 1) := by
  unfold befN
  rw [List.filter_filter]
  refine List.filter_congr fun n _ => ?_
  rw [Bool.eq_iff_iff]
  simp
  omega
theorem bef_le (Q : List (List Ad)) (r : Nat) : (befN Q r).length ≤ Q.length := by
  unfold befN
  exact Nat.le_trans (List.length_filter_le _ _) (by simp)
def rnd (Q : List (List Ad)) (r : Nat) : List (Nat × Nat) := (befN Q (r + 1)).map (fun n => (n, r))
def upTo (Q : List (List Ad)) (r : Nat) : List (Nat × Nat) := (List.range r).flatMap (rnd Q)
theorem upTo_succ (Q : List (List Ad)) (r : Nat) : upTo Q (r + 1) = upTo Q r ++ rnd Q r := by
  unfold upTo
  rw [List.range_succ, List.flatMap_append]
  simp
theorem upTo_pre (Q : List (List Ad)) {r m : Nat} (h : r ≤ m) : upTo Q r <+: upTo Q m := by
  obtain ⟨d, rfl⟩ : ∃ d, m = r + d := ⟨m - r, by omega⟩
  induction d with
  | zero => exact List.prefix_refl _
  | succ d ih => exact (ih (by omega)).trans (by rw [← Nat.add_assoc, upTo_succ]; exact List.prefix_append _ _)
theorem bef_none {Q : List (List Ad)} {N r : Nat} (hN : ∀ q ∈ Q, q.length ≤ N) (h : N < r) : befN Q r = [] := by
  unfold befN
  rw [List.filter_eq_nil_iff]
  intro n hn e
  have hn' : n < Q.length := by simpa using hn
  have h1 : r ≤ (Q.getD n []).length := by simpa using e
  have h2 := hN Q[n] (List.getElem_mem hn')
  rw [List.getD_eq_getElem?_getD, List.getElem?_eq_getElem hn', Option.getD_some] at h1
  omega
theorem bef_next {Q : List (List Ad)} {r : Nat} (h : befN Q r = []) : befN Q (r + 1) = [] := by rw [← bef_succ, h]; rfl
theorem upTo_stay {Q : List (List Ad)} {r : Nat} (h : befN Q r = []) : ∀ d, upTo Q (r + d) = upTo Q r ∧ befN Q (r + d) = []
  | 0 => ⟨rfl, h⟩
  | d + 1 => by
    obtain ⟨h1, h2⟩ := upTo_stay h d
    have h3 := bef_next h2
    refine ⟨?_, h3⟩
    rw [← Nat.add_assoc, upTo_succ, h1]
    unfold rnd
    rw [h3]
    simp
theorem upTo_end {Q : List (List Ad)} {N r : Nat} (hN : ∀ q ∈ Q, q.length ≤ N) (h : befN Q r = []) : upTo Q r = upTo Q N := by
  by_cases hr : r ≤ N
  · obtain ⟨d, rfl⟩ : ∃ d, N = r + d := ⟨N - r, by omega⟩
    exact (upTo_stay h d).1.symm
  · obtain ⟨d, rfl⟩ : ∃ d, r = N + 1 + d := ⟨r - (N + 1), by omega⟩
    have h1 := bef_none hN (Nat.lt_succ_self N)
    rw [(upTo_stay h1 d).1, upTo_succ]
    unfold rnd
    rw [h1]
    simp
theorem rnd_take {Q : List (List Ad)} {r i n : Nat} (hn : (befN Q (r + 1))[i]? = some n) : (rnd Q r).take (i + 1) = (rnd Q r).take i ++ [(n, r)] := by
  unfold rnd
  rw [List.take_add_one, List.getElem?_map, hn]
  rfl
theorem pre_next {Q : List (List Ad)} {N r i n : Nat} (hN : ∀ q ∈ Q, q.length ≤ N) (hn : (befN Q (r + 1))[i]? = some n) : upTo Q r ++ (rnd Q r).take i ++ [(n, r)] <+: upTo Q N := by
  have hr : r < N := Nat.lt_of_not_le (fun h => by
    rw [bef_none hN (show N < r + 1 by omega)] at hn
    simp at hn)
  have h1 := upTo_pre Q (show r + 1 ≤ N from hr)
  rw [upTo_succ] at h1
  refine List.IsPrefix.trans ?_ h1
  rw [List.append_assoc, ← rnd_take hn]
  exact (List.prefix_append_right_inj _).2 (List.take_prefix _ _)
theorem rnd_all (Q : List (List Ad)) (r : Nat) : upTo Q r ++ (rnd Q r).take (befN Q (r + 1)).length = upTo Q (r + 1) := by
  rw [upTo_succ]
  unfold rnd
  rw [List.take_of_length_le (by simp)]
/-- What is meant by a place and a round. -/
def getP (Q : List (List Ad)) (p : Nat × Nat) : Option Ad := (Q.getD p.1 [])[p.2]?
theorem mem_upTo {Q : List (List Ad)} {N : Nat} {p : Nat × Nat} (h : p ∈ upTo Q N) : p.1 < Q.length ∧ p.2 < (Q.getD p.1 []).length := by
  unfold upTo rnd at h
  rw [List.mem_flatMap] at h
  obtain ⟨r, _, h⟩ := h
  obtain ⟨n, hn, rfl⟩ := List.mem_map.1 h
  exact ⟨bef_lt hn, bef_has hn⟩
theorem heads_drop (Q : List (List Ad)) (r : Nat) : Turn.heads (Q.map (List.drop r)) = (rnd Q r).filterMap (getP Q) := by
  have hQ : Q = (List.range Q.length).map (fun n => Q.getD n []) := by
    apply List.ext_getElem?
    intro j
    rw [List.getElem?_map]
    by_cases h : j < Q.length
    · rw [List.getElem?_range h, Option.map_some, List.getD_eq_getElem?_getD, List.getElem?_eq_getElem h]; rfl
    · rw [List.getElem?_eq_none (by omega), List.getElem?_eq_none (by simp; omega)]; rfl
  have e1 : Turn.heads (Q.map (List.drop r)) = (List.range Q.length).filterMap (fun n => (Q.getD n [])[r]?) := by
    unfold Turn.heads
    rw [List.filterMap_map]
    have h1 : (List.head? ∘ List.drop r : List Ad → Option Ad) = fun q => q[r]? := funext fun q => by simp
    rw [h1]
    conv => lhs; rw [hQ]
    rw [List.filterMap_map]
    rfl
  rw [e1]
  unfold rnd befN
  rw [List.filterMap_map, List.filterMap_filter]
  congr 1
  funext n
  show _ = if decide (r + 1 ≤ (Q.getD n []).length) = true then getP Q (n, r) else none
  by_cases h : r + 1 ≤ (Q.getD n []).length
  · rw [if_pos (by simpa using h)]; rfl
  · rw [if_neg (by simpa using h)]
    exact List.getElem?_eq_none (by omega)
theorem rounds_flat : ∀ (n : Nat) (Q : List (List Ad)), Turn.rounds n Q = (List.range n).flatMap (fun r => Turn.heads (Q.map (List.drop r)))
  | 0, _ => rfl
  | n + 1, Q => by
    rw [Turn.rounds, rounds_flat n, List.range_succ_eq_map, List.flatMap_cons, List.flatMap_map]
    congr 1
    · congr 1
      have : (List.drop 0 : List Ad → List Ad) = id := funext fun q => rfl
      rw [this, List.map_id]
    · congr 1
      funext r
      congr 1
      rw [List.map_map]
      congr 1
      funext q
      show (q.tail).drop r = q.drop (r + 1)
      rw [← List.drop_one, List.drop_drop, Nat.add_comm]
theorem upTo_get (Q : List (List Ad)) (N : Nat) : (upTo Q N).filterMap (getP Q) = Turn.rounds N Q := by
  rw [rounds_flat]
  unfold upTo
  induction N with
  | zero => rfl
  | succ N ih => rw [List.range_succ, List.flatMap_append, List.filterMap_append, ih, List.flatMap_append]; simp [heads_drop]
theorem fams_turns (l : List Ad) : (upTo (fams l) l.length).filterMap (getP (fams l)) = Turn.turns famA l := upTo_get _ _
theorem fams_short (l : List Ad) : ∀ q ∈ fams l, q.length ≤ l.length := fun q hq => by
  unfold fams at hq
  obtain ⟨f, _, rfl⟩ := List.mem_map.1 hq
  exact List.length_filter_le _ _
end Go.Proofs.Ytcihcdifjnobjaa
