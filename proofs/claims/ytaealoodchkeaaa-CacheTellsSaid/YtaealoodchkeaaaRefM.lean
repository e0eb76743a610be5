/- The document's own answers about what is known: one entry put, many put. -/
import Derived.Test.YtaealoodchkeaaaRefL
set_option linter.unusedSimpArgs false
set_option linter.unusedVariables false
namespace Go.Proofs.Ytaealoodchkeaaa
open R3 Go.RowKit Go.Proofs.Ytaealoodchkeaaa.Kind

theorem slot_ne {j k n i i' : Nat} (hi : i < n) (hi' : i' < n) (h : j ≠ k) : j * n + i' ≠ k * n + i := by
  rcases Nat.lt_or_gt_of_ne h with h | h
  · have := Nat.mul_le_mul_right n (show j + 1 ≤ k from h)
    rw [Nat.add_mul] at this
    omega
  · have := Nat.mul_le_mul_right n (show k + 1 ≤ j from h)
    rw [Nat.add_mul] at this
    omega
namespace Kind
variable {α : Type} {Pr : Program} {K : Kind Pr α}
theorem RowC.pokeAt {w : World} {g : Nat} {cur : Array Value} {t : TypeId} {c : Nat} {l : List α} (hh : w.heap[g]? = some (.cells cur t (0, 0))) (h : K.RowC w (some ⟨g, 0, none⟩) c l) {k i : Nat} {x y : α} {v : Value} (hx : l[k]? = some x) (hi : i < K.k) (hy : K.enc y = (K.enc x).set i v) :
    K.RowC (w.setCell ⟨g, k * K.k + i, none⟩ v) (some ⟨g, 0, none⟩) c (l.set k y) ∧ (w.setCell ⟨g, k * K.k + i, none⟩ v).heap[g]? = some (.cells (cur.setIfInBounds (k * K.k + i) v) t (0, 0)) := by
  have hk : k < l.length := (List.getElem?_eq_some_iff.1 hx).1
  obtain ⟨b, o, e, hlt, hat⟩ := h.2.2.2 (by omega)
  injection e with e
  injection e with e1 e2 e3
  subst e1 e2
  have hin : k * K.k + i < cur.size := by
    obtain ⟨u, hu⟩ : ∃ u, (K.enc x)[i]? = some u := ⟨_, List.getElem?_eq_getElem (by rw [K.hk]; exact hi)⟩
    have h1 := hat k x hx i u hu
    rw [Nat.zero_add] at h1
    simp only [World.cell?, hh] at h1
    exact (Array.getElem?_eq_some_iff.1 h1).1
  have hh' := set_at hh (k * K.k + i) v
  have hc : ∀ z, (w.setCell ⟨g, k * K.k + i, none⟩ v).cell? ⟨g, z, none⟩ = if z = k * K.k + i then some v else w.cell? ⟨g, z, none⟩ := by
    intro z
    simp only [World.cell?, hh, hh']
    by_cases hz : z = k * K.k + i
    · subst hz
      simp [hin]
    · rw [if_neg hz]
      simp [Array.getElem?_setIfInBounds, Ne.symm hz]
  refine ⟨⟨by simpa using h.1, h.2.1, h.2.2.1, fun _ => ⟨g, 0, rfl, by simpa using hlt, ?_⟩⟩, hh'⟩
  intro j z hz i' u hu
  rw [Nat.zero_add]
  have hi' : i' < K.k := by have := (List.getElem?_eq_some_iff.1 hu).1; rwa [K.hk] at this
  rw [hc]
  rw [List.getElem?_set] at hz
  by_cases hjk : k = j
  · subst hjk
    rw [if_pos rfl, if_pos hk] at hz
    simp at hz
    subst hz
    rw [hy, List.getElem?_set] at hu
    by_cases hii : i = i'
    · subst hii
      rw [if_pos rfl, K.hk, if_pos hi] at hu
      rw [if_pos rfl]
      exact hu
    · rw [if_neg hii] at hu
      rw [if_neg (by omega)]
      have := hat k x hx i' u hu
      rwa [Nat.zero_add] at this
  · rw [if_neg hjk] at hz
    rw [if_neg (slot_ne hi hi' (fun e => hjk e.symm))]
    have := hat j z hz i' u hu
    rwa [Nat.zero_add] at this
end Kind
/-- An entry stored whole into a row of the call's own. -/
theorem mine_put {w : World} {base : Nat} {a : Option Addr} {c : Nat} {l : List Kn} (h : KK.MineC w base a c l) {k : Nat} {x : Kn} (y : Kn) (hx : l[k]? = some x) :
    ∃ g, a = some ⟨g, 0, none⟩ ∧ base ≤ g ∧ KK.RowC ((((w.setCell ⟨g, k * 4, none⟩ (.string y.name)).setCell ⟨g, k * 4 + 1, none⟩ (.string y.row)).setCell ⟨g, k * 4 + 2, none⟩ (.int .i64 y.e)).setCell ⟨g, k * 4 + 3, none⟩ (.int .i64 y.until_)) a c (l.set k y) ∧
      (w.cell? ⟨g, k * 4, none⟩ = some (.string x.name) ∧ w.cell? ⟨g, k * 4 + 1, none⟩ = some (.string x.row) ∧ w.cell? ⟨g, k * 4 + 2, none⟩ = some (.int .i64 x.e) ∧ w.cell? ⟨g, k * 4 + 3, none⟩ = some (.int .i64 x.until_)) ∧ ∀ z, w.frozen? ⟨g, z, none⟩ = false := by
  have hrow := h.row
  have hk : k < l.length := (List.getElem?_eq_some_iff.1 hx).1
  obtain ⟨g, cur, t, rfl, hb, hh, _, _⟩ := h.2.2.2 (by omega)
  obtain ⟨b, o, e, hlt, hat⟩ := hrow.2.2.2 (by omega)
  injection e with e
  injection e with e1 e2 e3
  subst e1 e2
  obtain ⟨r0, h0⟩ := RowC.pokeAt (K := KK) (i := 0) (y := { x with name := y.name }) (v := .string y.name) hh hrow hx (by decide) rfl
  have x1 : (l.set k { x with name := y.name })[k]? = some { x with name := y.name } := by simp [hk]
  obtain ⟨r1, h1⟩ := RowC.pokeAt (K := KK) (i := 1) (y := { x with name := y.name, row := y.row }) (v := .string y.row) h0 r0 x1 (by decide) rfl
  rw [List.set_set] at r1
  have x2 : (l.set k { x with name := y.name, row := y.row })[k]? = some { x with name := y.name, row := y.row } := by simp [hk]
  obtain ⟨r2, h2⟩ := RowC.pokeAt (K := KK) (i := 2) (y := { x with name := y.name, row := y.row, e := y.e }) (v := .int .i64 y.e) h1 r1 x2 (by decide) rfl
  rw [List.set_set] at r2
  have x3 : (l.set k { x with name := y.name, row := y.row, e := y.e })[k]? = some { x with name := y.name, row := y.row, e := y.e } := by simp [hk]
  obtain ⟨r3, _⟩ := RowC.pokeAt (K := KK) (i := 3) (y := y) (v := .int .i64 y.until_) h2 r2 x3 (by decide) rfl
  rw [List.set_set] at r3
  have hcs := KK.cells hat hx
  simp only [Nat.zero_add] at hcs
  exact ⟨g, rfl, hb, r3, hcs, fun z => by simp [World.frozen?, hh]⟩

theorem le_text (a b : ByteArray) : (Op.bytesLess a.toList b.toList || a.toList == b.toList) = leS a b := by
  unfold leS ltS
  rw [text_eq]
theorem while_step {l : List Kn} {s : ByteArray} {k : Nat} {x : Kn} (h : (l.takeWhile (fun y => leS y.name s)).length ≥ k) (hx : l[k]? = some x) : (leS x.name s = true → (l.takeWhile (fun y => leS y.name s)).length ≥ k + 1) ∧ (leS x.name s = false → (l.takeWhile (fun y => leS y.name s)).length = k) := by
  have hk : k < l.length := (List.getElem?_eq_some_iff.1 hx).1
  have hxe := (List.getElem?_eq_some_iff.1 hx).2
  induction l generalizing k with
  | nil => simp at hk
  | cons z l ih =>
    cases k with
    | zero =>
      simp at hx
      subst hx
      constructor
      · intro h1; simp [List.takeWhile_cons, h1]
      · intro h1; simp [List.takeWhile_cons, h1]
    | succ k =>
      have hz : leS z.name s = true := by
        cases hq : leS z.name s with
        | true => rfl
        | false => simp [List.takeWhile_cons, hq] at h
      simp only [List.takeWhile_cons, hz, if_true, List.length_cons] at h ⊢
      have := ih (k := k) (by omega) (by simpa using hx) (by simpa using hk) (by simpa using hxe)
      constructor
      · intro h1; have := this.1 h1; omega
      · intro h1; have := this.2 h1; omega
theorem while_parts (l : List Kn) (p : Kn → Bool) {k : Nat} (h : (l.takeWhile p).length = k) : l.takeWhile p = l.take k ∧ l.dropWhile p = l.drop k := by
  have e := List.takeWhile_append_dropWhile (p := p) (l := l)
  constructor
  · have h1 : (l.takeWhile p ++ l.dropWhile p).take k = l.take k := by rw [e]
    rw [← h, List.take_left] at h1
    rw [← h]; exact h1
  · have h1 : (l.takeWhile p ++ l.dropWhile p).drop k = l.drop k := by rw [e]
    rw [← h, List.drop_left] at h1
    rw [← h]; exact h1
end Go.Proofs.Ytaealoodchkeaaa
