/- Names: the zones' names, rising, each once. -/
import Derived.Test.YtlceeeajhejedaaKeys
import Derived.Test.YtlceeeajhejedaaFind
import Derived.Maps.OwnSet
import Derived.Maps.Range
import Derived.Maps.Views
import Derived.Sort.Walk0
set_option linter.unusedSimpArgs false
set_option linter.unusedVariables false
namespace Go.Proofs.Ytlceeeajhejedaa
open Go.RowKit Go.Maps Go.Proofs.Ytlceeeajhejedaa.Kind

/-- Which names a map has, those of the zones ahead of the k-th. -/
def HasTo (P : Pl) (D : DataW Unit) (k : Nat) : Prop := ∀ x : List UInt8, Maps.has D (.string x) = true ↔ ∃ (j : Nat) (z : Zo), j < k ∧ P.zones[j]? = some z ∧ z.name.data.toList = x
theorem hasTo_zero (P : Pl) : HasTo P (.map []) 0 := fun x => ⟨fun h => by simp [Maps.has] at h, fun ⟨j, z, h, _⟩ => by omega⟩
theorem hasTo_step {P : Pl} {D : DataW Unit} {k : Nat} {z : Zo} {d : DataW Unit} (h : HasTo P D k) (hD : Maps.IsMap D) (hz : P.zones[k]? = some z) : HasTo P (D.put (.string z.name.data.toList) d) (k + 1) := fun x => by
  by_cases hx : x = z.name.data.toList
  · subst hx
    rw [has_put_same hD (by simp [WideAt.IsKeyLit])]
    exact ⟨fun _ => ⟨k, z, by omega, hz, rfl⟩, fun _ => rfl⟩
  · rw [has_put_other (by simpa using hx), h x]
    constructor
    · rintro ⟨j, y, hj, h1, h2⟩
      exact ⟨j, y, by omega, h1, h2⟩
    · rintro ⟨j, y, hj, h1, h2⟩
      refine ⟨j, y, ?_, h1, h2⟩
      rcases (show j < k ∨ j = k by omega) with h' | rfl
      · exact h'
      · rw [hz] at h1
        cases h1
        exact absurd h2.symm hx
theorem strKeys_say {w : World} {b n : Nat} {D : DataW Unit} {R : Value → Option (DataW Unit × List MemPlace)} (hu : Try.prog.underlying 9 = some .string) (h : w.ownsMap Try.prog 9 R b n D) : (strKeys D).Nodup ∧ (∀ x, x ∈ strKeys D ↔ Maps.has D (.string x) = true) ∧ Maps.size D ≤ n := by
  obtain ⟨es, rfl, hp, _⟩ := h.entries (string_keyed hu)
  obtain ⟨es', e', hk⟩ := h.keysOf
  cases e'
  have hstr : ∀ p ∈ es, ∃ x, p.1 = .string x := fun p hp' => by
    obtain ⟨v, hv⟩ := hk p hp'
    obtain ⟨x, _, hx, _⟩ := Maps.keyOf_str hu hv
    exact ⟨x, hx⟩
  refine ⟨?_, fun x => ?_, ?_⟩
  · show (es.map fun p => strOf p.1).Nodup
    rw [List.Nodup, List.pairwise_map]
    refine hp.imp_of_mem fun {p q} h1 h2 hne e => hne ?_
    obtain ⟨a, ha⟩ := hstr p h1
    obtain ⟨c, hc⟩ := hstr q h2
    rw [ha, hc] at e ⊢
    exact congrArg _ e
  · show x ∈ (es.map fun p => strOf p.1) ↔ _
    rw [has_eq, List.any_eq_true, List.mem_map]
    constructor
    · rintro ⟨p, h1, rfl⟩
      obtain ⟨a, ha⟩ := hstr p h1
      exact ⟨p, h1, by rw [ha]; simp [Lit.sameKey, strOf]⟩
    · rintro ⟨p, h1, h2⟩
      obtain ⟨a, ha⟩ := hstr p h1
      rw [ha] at h2
      exact ⟨p, h1, by rw [ha]; simpa [Lit.sameKey, strOf] using h2⟩
  · obtain ⟨fs, clock, _, _, hs, e⟩ := h
    show es.length ≤ n
    injection e with e
    rw [e, (WideShapes.sorted_perm _).length_eq]
    simpa using hs

def textOf (x : List UInt8) : ByteArray := ⟨x.toArray⟩
theorem names_of {P : Pl} {ss : List (List UInt8)} {D : DataW Unit} {k : Nat} (hk : k = P.zones.length) (hp : ss.Perm (strKeys D)) (hn : (strKeys D).Nodup) (hm : ∀ x, x ∈ strKeys D ↔ Maps.has D (.string x) = true) (hD : HasTo P D k) : NamesP P ((ss.mergeSort (fun x y => decide (x ≤ y))).map textOf) := by
  have hnd : (ss.mergeSort (fun x y => decide (x ≤ y))).Nodup := ((List.mergeSort_perm ss _).trans hp).nodup_iff.2 hn
  have hmm : ∀ x, x ∈ ss.mergeSort (fun x y => decide (x ≤ y)) ↔ ∃ z ∈ P.zones, z.name.data.toList = x := fun x => by
    rw [((List.mergeSort_perm ss _).trans hp).mem_iff, hm, hD x]
    constructor
    · rintro ⟨j, z, _, h1, h2⟩
      exact ⟨z, List.mem_of_getElem? h1, h2⟩
    · rintro ⟨z, h1, h2⟩
      obtain ⟨j, hj, e⟩ := List.getElem_of_mem h1
      exact ⟨j, z, by omega, by rw [List.getElem?_eq_getElem hj, e], h2⟩
  have hpw : (ss.mergeSort (fun x y => decide (x ≤ y))).Pairwise (fun x y => decide (x ≤ y) = true) := List.pairwise_mergeSort
    (fun a b c h1 h2 => by simp only [decide_eq_true_eq] at *; exact List.le_trans h1 h2) (fun a b => by simp only [Bool.or_eq_true, decide_eq_true_eq]; exact List.le_total a b) ss
  generalize ss.mergeSort (fun x y => decide (x ≤ y)) = l at *
  refine ⟨fun i x y hx hy => ?_, fun s => ?_, ?_⟩
  · rw [List.getElem?_map] at hx hy
    obtain ⟨a, ha, rfl⟩ := Option.map_eq_some_iff.1 hx
    obtain ⟨c, hc, rfl⟩ := Option.map_eq_some_iff.1 hy
    rw [ByteArray.toList_eq, ByteArray.toList_eq, bytesLess_eq]
    obtain ⟨h1, e1⟩ := List.getElem?_eq_some_iff.1 ha
    obtain ⟨h2, e2⟩ := List.getElem?_eq_some_iff.1 hc
    have hle := List.pairwise_iff_getElem.1 hpw i (i + 1) h1 h2 (by omega)
    have hne := List.pairwise_iff_getElem.1 hnd i (i + 1) h1 h2 (by omega)
    rw [e1, e2] at hle hne
    simp only [decide_eq_true_eq, textOf] at hle ⊢
    by_cases h : a < c
    · exact decide_eq_true h
    · exact absurd (List.le_antisymm hle (List.not_lt.1 h)) hne
  · rw [List.mem_map]
    constructor
    · rintro ⟨x, h1, rfl⟩
      obtain ⟨z, h2, h3⟩ := (hmm x).1 h1
      exact ⟨z, h2, by rw [← h3]; simp [textOf]⟩
    · rintro ⟨z, h1, rfl⟩
      exact ⟨_, (hmm _).2 ⟨z, h1, rfl⟩, by simp [textOf]⟩
  · rw [List.Nodup, List.pairwise_map]
    exact hnd.imp (fun {a b} h e => h (by simpa [textOf] using e))
end Go.Proofs.Ytlceeeajhejedaa
