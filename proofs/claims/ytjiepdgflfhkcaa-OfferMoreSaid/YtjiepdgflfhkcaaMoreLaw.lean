/- OfferMore walked, over the calls' contracts. -/
import Derived.Test.YtjiepdgflfhkcaaSpecs
import Derived.Test.YtjiepdgflfhkcaaOneLaw
set_option linter.unusedSimpArgs false
set_option linter.unusedVariables false
namespace Go.Proofs.Ytjiepdgflfhkcaa
open Go.RowKit Go.Proofs.Ytjiepdgflfhkcaa.Kind Go.Proofs.Ytjiepdgflfhkcaa.P7

theorem over_append {w : World} {hs : List Hv} {R : List (List Of)} {a : Option Addr} {c : Nat} {l : List Of} (h : Over w hs R) (h' : OK.RowC w a c l) : Over w (hs ++ [⟨a, l.length, c⟩]) (R ++ [l]) := by
  refine ⟨by simp [h.1], fun j x r h1 h2 => ?_⟩
  by_cases hj : j < hs.length
  · rw [List.getElem?_append_left hj] at h1
    rw [List.getElem?_append_left (by rw [← h.1]; exact hj)] at h2
    exact h.2 j x r h1 h2
  · rw [List.getElem?_append_right (by omega)] at h1
    rw [List.getElem?_append_right (by have := h.1; omega), ← h.1] at h2
    have hj0 : j - hs.length = 0 := by have := (List.getElem?_eq_some_iff.1 h1).1; simp at this; omega
    rw [hj0] at h1 h2
    simp at h1 h2
    subst h1 h2
    exact ⟨rfl, h'⟩
theorem over_set {w : World} {hs : List Hv} {R : List (List Of)} (h : Over w hs R) (g : Nat) : Over w (hs.set g ⟨none, 0, 0⟩) (R.set g []) := by
  refine ⟨by simp [h.1], fun j x r h1 h2 => ?_⟩
  by_cases hj : j = g
  · subst hj
    have hlt : j < hs.length := by have := (List.getElem?_eq_some_iff.1 h1).1; simpa using this
    rw [List.getElem?_set_self hlt] at h1
    rw [List.getElem?_set_self (by rw [← h.1]; exact hlt)] at h2
    injection h1 with h1
    injection h2 with h2
    subst h1 h2
    exact ⟨rfl, row_none _⟩
  · rw [List.getElem?_set_ne (fun e => hj e.symm)] at h1 h2
    exact h.2 j x r h1 h2
/-- One place of a row of headers is written. -/
theorem mine_set {w : World} {base : Nat} {a : Option Addr} {c : Nat} {hs : List Hv} (h : RK.MineC w base a c hs) (g : Nat) (hg : g < hs.length) : ∃ b x, a = some ⟨b, 0, none⟩ ∧ base ≤ b ∧ b < w.heap.size ∧ w.cell? ⟨b, 0 + g, none⟩ = some x ∧ w.frozen? ⟨b, 0 + g, none⟩ = false ∧ RK.RowC (w.setCell ⟨b, 0 + g, none⟩ (.slice none 0 0)) a c (hs.set g ⟨none, 0, 0⟩) := by
  obtain ⟨h1, h2, h3, h4⟩ := h
  obtain ⟨b, cur, t, e1, e2, e3, e4, e5⟩ := h4 (by omega)
  have hat := at_of e3 e4 e5
  have hlt := lt_heap' e3
  have hx : hs[g]? = some hs[g] := List.getElem?_eq_getElem hg
  have hc := RK.one hat hx
  refine ⟨b, _, e1, e2, hlt, hc, by simp [World.frozen?, e3], by simpa using h1, h2, h3, fun _ => ⟨b, 0, e1, by simpa using hlt, ?_⟩⟩
  intro j y hy i v hv
  have hi : i = 0 := by have := (List.getElem?_eq_some_iff.1 hv).1; simp [RK] at this; omega
  subst hi
  simp [RK] at hv
  subst hv
  show (w.setCell ⟨b, 0 + g, none⟩ (.slice none 0 0)).cell? ⟨b, 0 + j * 1 + 0, none⟩ = _
  rw [Nat.mul_one, Nat.add_zero]
  by_cases hj : j = g
  · subst hj
    rw [List.getElem?_set_self hg] at hy
    injection hy with hy
    subst hy
    exact World.cell?_setCell_same (w := w) (a := ⟨b, 0 + j, none⟩) (v := .slice none 0 0) hc
  · rw [List.getElem?_set_ne (fun e => hj e.symm)] at hy
    exact (World.cell?_setCell_other (w := w) (a := ⟨b, 0 + g, none⟩) (b := ⟨b, 0 + j, none⟩) (v := .slice none 0 0) (by intro e; injection e with _ e _; omega)).trans (RK.one hat hy)
theorem clampP_mono {a b : Int} (h : a ≤ b) : clampP a ≤ clampP b := by unfold clampP; repeat' split <;> omega
theorem aloneP_mono {D : List Dv} {clock later : Int} (h : clock ≤ later) {o : Of} {x y : Bool} (hal : aloneP D clock o x y = true) : aloneP D later o x y = true := by
  unfold aloneP at *
  have := clampP_mono h
  split
  · rename_i e; rw [if_pos e] at hal; exact hal
  · rename_i e; rw [if_neg e] at hal
    split
    · rename_i e; rw [if_pos e] at hal; exact hal
    · rename_i e; rw [if_neg e] at hal
      split
      · rename_i e; rw [if_pos e] at hal
        simp only [decide_eq_true_eq] at hal ⊢
        omega
      · rename_i e; rw [if_neg e] at hal; exact hal
theorem ready_more {R : List (List Of)} {D : List Dv} {clock later : Int} {dl lk : List Bool} {more : List Of} (h : clock ≤ later) {m : Mt} (hm : m ∈ ready R D clock dl lk) : m ∈ ready (R ++ [more]) D later dl lk :=
  allP_mono _ _ (fun _ _ _ ha => aloneP_mono h ha) (fun p row hp => by rw [List.getElem?_append_left (List.getElem?_eq_some_iff.1 hp).1]; exact hp) hm
def keepP (g : Nat) (m : Mt) : Bool := decide (m.p ≠ (g : Int)) && decide (m.q ≠ (g : Int))
theorem ready_gone (R : List (List Of)) (D : List Dv) (clock : Int) (dl lk : List Bool) (g : Nat) (hg : g < R.length) : ready (R.set g []) D clock dl lk = (ready R D clock dl lk).filter (keepP g) := allP_gone _ _ R g hg
theorem sum_set (R : List (List Of)) : ∀ g, ((R.set g []).map (fun l => l.length)).sum ≤ (R.map (fun l => l.length)).sum := by
  induction R with
  | nil => intro g; simp
  | cons l R ih =>
    intro g
    cases g with
    | zero => simp
    | succ g => simp only [List.set_cons_succ, List.map_cons, List.sum_cons]; have := ih g; omega
theorem filter_take {α : Type} (f : α → Bool) (L : List α) (k : Nat) (x : α) (h : L[k]? = some x) : (L.take (k + 1)).filter f = (L.take k).filter f ++ (if f x then [x] else []) := by
  rw [List.take_add_one, List.filter_append, h]
  simp [List.filter_cons]
end Go.Proofs.Ytjiepdgflfhkcaa
