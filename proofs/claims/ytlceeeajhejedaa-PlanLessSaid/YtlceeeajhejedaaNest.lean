/- Rows whose elements point to further rows, read. Nothing here knows the program. -/
import Derived.Test.YtlceeeajhejedaaKit
set_option linter.unusedSimpArgs false
set_option linter.unusedVariables false
namespace Go.Proofs.Ytlceeeajhejedaa
open Go.RowKit
/-- What is said of a header and what it stands for stays where nothing that lay has turned. -/
def Steady {α β : Type} (P : World → α → β → Prop) : Prop := ∀ (w w' : World) (h : α) (b : β), P w h b → Below w.heap.size w w' → P w' h b
namespace Kind
section
variable {Pr : Program} {α β : Type}
/-- A row of headers hs, of which the j-th stands for the j-th of L. -/
def NestC (K : Kind Pr α) (P : World → α → β → Prop) (w : World) (a : Option Addr) (c : Nat) (hs : List α) (L : List β) : Prop :=
  hs.length = L.length ∧ K.RowC w a c hs ∧ ∀ (j : Nat) (h : α) (b : β), hs[j]? = some h → L[j]? = some b → P w h b
variable {K : Kind Pr α} {P : World → α → β → Prop}
theorem NestC.below (hP : Steady P) {w w' : World} {a : Option Addr} {c : Nat} {hs : List α} {L : List β} (h : K.NestC P w a c hs L) (hb : Below w.heap.size w w') : K.NestC P w' a c hs L :=
  ⟨h.1, h.2.1.below hb, fun j x b h1 h2 => hP _ _ _ _ (h.2.2 j x b h1 h2) hb⟩
/-- The j-th: its header, where its cells lie, what it stands for. -/
theorem NestC.get {w : World} {a : Option Addr} {c : Nat} {hs : List α} {L : List β} (h : K.NestC P w a c hs L) {j : Nat} {b : β} (hj : L[j]? = some b) :
    ∃ x g o, hs[j]? = some x ∧ a = some ⟨g, o, none⟩ ∧ g < w.heap.size ∧ K.At w g o hs ∧ P w x b := by
  have hlt := (List.getElem?_eq_some_iff.1 hj).1
  have h1 := h.1
  obtain ⟨x, hx⟩ : ∃ x, hs[j]? = some x := ⟨_, List.getElem?_eq_getElem (by omega)⟩
  obtain ⟨g, o, e, hg, hat⟩ := h.2.1.2.2.2 (by omega)
  exact ⟨x, g, o, hx, e, hg, hat, h.2.2 j x b hx hj⟩
theorem nest_nil (hR : ∀ w, K.RowC w none 0 []) (w : World) : K.NestC P w none 0 [] [] := ⟨rfl, hR w, fun j h b h1 => by simp at h1⟩
/-- The headers' equation lets the rows' length be told by what they stand for. -/
theorem NestC.len {w : World} {a : Option Addr} {c : Nat} {hs : List α} {L : List β} (h : K.NestC P w a c hs L) : hs.length = L.length := h.1
theorem NestC.take {w : World} {a a' : Option Addr} {c : Nat} {hs : List α} {L : List β} (h : K.NestC P w a c hs L) (n : Nat) (hn : n ≤ L.length) (ha : a' = a) : K.NestC P w a' c (hs.take n) (L.take n) := by
  have h1 := h.1
  refine ⟨by simp; omega, h.2.1.take n (by omega) ha, fun j x b hx hb => ?_⟩
  rw [List.getElem?_take] at hx hb
  split at hx
  · rename_i hlt
    rw [if_pos hlt] at hb
    exact h.2.2 j x b hx hb
  · cases hx
theorem NestC.drop {w : World} {a a' : Option Addr} {c : Nat} {hs : List α} {L : List β} (h : K.NestC P w a c hs L) (n : Nat) (hn : n ≤ L.length) (ha : a' = if c = n then a else a.map (·.add (n * K.k))) : K.NestC P w a' (c - n) (hs.drop n) (L.drop n) := by
  have h1 := h.1
  refine ⟨by simp; omega, h.2.1.drop n (by omega) ha, fun j x b hx hb => ?_⟩
  rw [List.getElem?_drop] at hx hb
  exact h.2.2 (n + j) x b hx hb
end
/-- Each of the headers stands for the one at its place. -/
def Each {α β : Type} (P : World → α → β → Prop) (w : World) (hs : List α) (L : List β) : Prop :=
  hs.length = L.length ∧ ∀ (j : Nat) (h : α) (b : β), hs[j]? = some h → L[j]? = some b → P w h b
section
variable {α β : Type} {P : World → α → β → Prop}
theorem NestC.each {Pr : Program} {K : Kind Pr α} {w : World} {a : Option Addr} {c : Nat} {hs : List α} {L : List β} (h : K.NestC P w a c hs L) : Each P w hs L := ⟨h.1, h.2.2⟩
theorem Each.nest {Pr : Program} {K : Kind Pr α} {w : World} {a : Option Addr} {c : Nat} {hs : List α} {L : List β} (h : Each P w hs L) (hr : K.RowC w a c hs) : K.NestC P w a c hs L := ⟨h.1, hr, h.2⟩
theorem Each.below (hP : Steady P) {w w' : World} {hs : List α} {L : List β} (h : Each P w hs L) (hb : Below w.heap.size w w') : Each P w' hs L := ⟨h.1, fun j x b h1 h2 => hP _ _ _ _ (h.2 j x b h1 h2) hb⟩
theorem each_nil (w : World) : Each P w [] [] := ⟨rfl, fun j x b h => by simp at h⟩
theorem each_one {w : World} {x : α} {b : β} (h : P w x b) : Each P w [x] [b] := ⟨rfl, fun j y d h1 h2 => by
  match j, h1, h2 with
  | 0, h1, h2 =>
    simp at h1 h2
    subst h1 h2
    exact h
  | j + 1, h1, _ => simp at h1⟩
theorem Each.append {w : World} {hs ks : List α} {L M : List β} (h : Each P w hs L) (k : Each P w ks M) : Each P w (hs ++ ks) (L ++ M) := by
  refine ⟨by simp [h.1, k.1], fun j x b h1 h2 => ?_⟩
  by_cases hj : j < hs.length
  · rw [List.getElem?_append_left hj] at h1
    rw [List.getElem?_append_left (by have := h.1; omega)] at h2
    exact h.2 j x b h1 h2
  · rw [List.getElem?_append_right (by omega)] at h1
    rw [List.getElem?_append_right (by have := h.1; omega), ← h.1] at h2
    exact k.2 _ x b h1 h2
theorem Each.take {w : World} {hs : List α} {L : List β} (h : Each P w hs L) (n : Nat) : Each P w (hs.take n) (L.take n) := by
  refine ⟨by simp [h.1], fun j x b h1 h2 => ?_⟩
  rw [List.getElem?_take] at h1 h2
  split at h1
  · rename_i hlt
    rw [if_pos hlt] at h2
    exact h.2 j x b h1 h2
  · cases h1
theorem Each.drop {w : World} {hs : List α} {L : List β} (h : Each P w hs L) (n : Nat) : Each P w (hs.drop n) (L.drop n) := by
  refine ⟨by simp [h.1], fun j x b h1 h2 => ?_⟩
  rw [List.getElem?_drop] at h1 h2
  exact h.2 _ x b h1 h2
end
end Kind
end Go.Proofs.Ytlceeeajhejedaa
