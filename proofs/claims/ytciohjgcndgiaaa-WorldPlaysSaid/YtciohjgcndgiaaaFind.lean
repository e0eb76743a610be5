/- The first at which something holds. -/
import Derived.Test.YtciohjgcndgiaaaSpecs
set_option linter.unusedSimpArgs false
set_option linter.unusedVariables false
namespace Go.Proofs.Ytciohjgcndgiaaa
open Go.RowKit Go.Proofs.Ytciohjgcndgiaaa.Kind

def idxI {α : Type} (p : α → Bool) (l : List α) : Int := match l.findIdx? p with | none => -1 | some i => i

theorem idxI_at {α : Type} {p : α → Bool} {l : List α} {k : Nat} {x : α} (hx : l[k]? = some x) (hp : p x = true) (hb : ∀ (j : Nat) (y : α), j < k → l[j]? = some y → p y = false) : idxI p l = k := by
  obtain ⟨hk, e⟩ := List.getElem?_eq_some_iff.1 hx
  have : l.findIdx? p = some k := by
    rw [List.findIdx?_eq_some_iff_getElem]
    refine ⟨hk, by rw [e]; exact hp, fun j hj => ?_⟩
    have := hb j l[j] hj (List.getElem?_eq_getElem (by omega))
    simp [this]
  rw [idxI, this]

theorem idxI_none {α : Type} {p : α → Bool} {l : List α} (hb : ∀ (j : Nat) (y : α), j < l.length → l[j]? = some y → p y = false) : idxI p l = -1 := by
  have : l.findIdx? p = none := by
    rw [List.findIdx?_eq_none_iff]
    intro x hx
    obtain ⟨j, hj, e⟩ := List.getElem_of_mem hx
    exact hb j x hj (by rw [List.getElem?_eq_getElem hj, e])
  rw [idxI, this]

def NoneTo {α : Type} (p : α → Bool) (l : List α) (k : Nat) : Prop := ∀ (j : Nat) (y : α), j < k → l[j]? = some y → p y = false

theorem noneTo_zero {α : Type} (p : α → Bool) (l : List α) : NoneTo p l 0 := fun j y h => by omega

theorem noneTo_step {α : Type} {p : α → Bool} {l : List α} {k : Nat} {x : α} (h : NoneTo p l k) (hx : l[k]? = some x) (hp : p x = false) : NoneTo p l (k + 1) := fun j y hj hy => by
  rcases (show j < k ∨ j = k by omega) with h' | rfl
  · exact h j y h' hy
  · rw [hx] at hy; cases hy; exact hp


theorem len_intC (n : Nat) (h : n ≤ maxLen) : (n : Int) ≤ 9223372036854775807 := by
  unfold maxLen at h
  omega

theorem text_eq (a b : ByteArray) : (a.toList == b.toList) = decide (a = b) := by
  rw [Bool.eq_iff_iff]
  simp only [beq_iff_eq, decide_eq_true_eq]
  constructor
  · intro h
    apply ByteArray.ext
    apply Array.ext'
    rw [ByteArray.toList_eq, ByteArray.toList_eq] at h
    exact h
  · rintro rfl; rfl


theorem FK.row11C {w : World} {b o : Nat} {l : List Fv} (h : FK.At w b o l) {j : Nat} {x : Fv} (hx : l[j]? = some x) :
    (w.cell? ⟨b, o + j * 11, none⟩ = some (.int .i8 x.ad.f) ∧ w.cell? ⟨b, o + j * 11 + 1, none⟩ = some (.int .u16 x.ad.g0) ∧ w.cell? ⟨b, o + j * 11 + 2, none⟩ = some (.int .u16 x.ad.g1) ∧ w.cell? ⟨b, o + j * 11 + 3, none⟩ = some (.int .u16 x.ad.g2) ∧ w.cell? ⟨b, o + j * 11 + 4, none⟩ = some (.int .u16 x.ad.g3) ∧ w.cell? ⟨b, o + j * 11 + 5, none⟩ = some (.int .u16 x.ad.g4)) ∧
    (w.cell? ⟨b, o + j * 11 + 6, none⟩ = some (.int .u16 x.ad.g5) ∧ w.cell? ⟨b, o + j * 11 + 7, none⟩ = some (.int .u16 x.ad.g6) ∧ w.cell? ⟨b, o + j * 11 + 8, none⟩ = some (.int .u16 x.ad.g7) ∧ w.cell? ⟨b, o + j * 11 + 9, none⟩ = some (.int .i64 x.ad.p) ∧ w.cell? ⟨b, o + j * 11 + 10, none⟩ = some (.slice x.h.a x.h.n x.h.c)) :=
  ⟨⟨h j x hx 0 _ rfl, h j x hx 1 _ rfl, h j x hx 2 _ rfl, h j x hx 3 _ rfl, h j x hx 4 _ rfl, h j x hx 5 _ rfl⟩, h j x hx 6 _ rfl, h j x hx 7 _ rfl, h j x hx 8 _ rfl, h j x hx 9 _ rfl, h j x hx 10 _ rfl⟩

theorem eql_adC (x y : Ad) (W : World) : (binOp .eql 43 (.agg #[.int .i8 x.f, .int .u16 x.g0, .int .u16 x.g1, .int .u16 x.g2, .int .u16 x.g3, .int .u16 x.g4, .int .u16 x.g5, .int .u16 x.g6, .int .u16 x.g7, .int .i64 x.p]) (.agg #[.int .i8 y.f, .int .u16 y.g0, .int .u16 y.g1, .int .u16 y.g2, .int .u16 y.g3, .int .u16 y.g4, .int .u16 y.g5, .int .u16 y.g6, .int .u16 y.g7, .int .i64 y.p])).run Try.prog W = .ok (.bool (decide (x = y))) W := by
  have h := equalIn_addr 9997 W x y
  simp only [Go.Proofs.Ytciohjgcndgiaaa.Ad.v] at h
  rw [run_eql_struct, h]
  rfl


theorem idxI_same {α β : Type} {p : α → Bool} {q : β → Bool} {hs : List α} {L : List β} (hlen : hs.length = L.length) (h : ∀ (j : Nat) (x : α) (y : β), hs[j]? = some x → L[j]? = some y → p x = q y) : idxI p hs = idxI q L := by
  rcases Classical.em (∃ k y, L[k]? = some y ∧ q y = true ∧ ∀ (j : Nat) (z : β), j < k → L[j]? = some z → q z = false) with ⟨k, y, h1, h2, h3⟩ | hno
  · have hk := (List.getElem?_eq_some_iff.1 h1).1
    obtain ⟨x, hx⟩ : ∃ x, hs[k]? = some x := ⟨_, List.getElem?_eq_getElem (by omega)⟩
    rw [idxI_at h1 h2 h3, idxI_at hx (by rw [h k x y hx h1]; exact h2) (fun j z hj hz => by
      obtain ⟨u, hu⟩ : ∃ u, L[j]? = some u := ⟨_, List.getElem?_eq_getElem (by omega)⟩
      rw [h j z u hz hu]
      exact h3 j u hj hu)]
  · have hall : ∀ (n : Nat), ∀ (j : Nat) (z : β), j < n → L[j]? = some z → q z = false := by
      intro n
      induction n with
      | zero => intro j z hj; omega
      | succ n ih =>
        intro j z hj hz
        rcases (show j < n ∨ j = n by omega) with h' | rfl
        · exact ih j z h' hz
        · cases hq : q z with
          | false => rfl
          | true => exact absurd ⟨j, z, hz, hq, ih⟩ hno
    rw [idxI_none (hall _), idxI_none (fun j z hj hz => by
      obtain ⟨u, hu⟩ : ∃ u, L[j]? = some u := ⟨_, List.getElem?_eq_getElem (by omega)⟩
      rw [h j z u hz hu]
      exact hall (j + 1) j u (by omega) hu)]

theorem idx_cases {β : Type} (q : β → Bool) (L : List β) : (idxI q L = -1 ∧ L.find? q = none) ∨ ∃ (k : Nat) (z : β), idxI q L = k ∧ L[k]? = some z ∧ L.find? q = some z := by
  unfold idxI
  cases h : L.findIdx? q with
  | none =>
    left
    refine ⟨rfl, ?_⟩
    rw [List.find?_eq_none]
    rw [List.findIdx?_eq_none_iff] at h
    intro x hx
    simp [h x hx]
  | some k =>
    right
    rw [List.findIdx?_eq_some_iff_getElem] at h
    obtain ⟨hk, h1, h2⟩ := h
    refine ⟨k, L[k], rfl, List.getElem?_eq_getElem hk, ?_⟩
    rw [List.find?_eq_some_iff_getElem]
    exact ⟨h1, k, hk, rfl, fun j hj => by simpa using h2 j hj⟩
end Go.Proofs.Ytciohjgcndgiaaa
