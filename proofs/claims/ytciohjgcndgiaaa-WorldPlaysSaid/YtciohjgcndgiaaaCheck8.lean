/- Sockets and a record that go together: the document's own answer. -/
import Derived.Test.YtciohjgcndgiaaaSpecs
set_option linter.unusedSimpArgs false
set_option linter.unusedVariables false
namespace Go.Proofs.Ytciohjgcndgiaaa
open Go.RowKit Go.Proofs.Ytciohjgcndgiaaa.Kind

def lastAt (M : List Nk) : Nat → Option Int
  | 0 => none
  | k + 1 => (M[k]?).map (fun m => m.at_)
theorem stepG_snd {ops : List Int} {st st' : Nat × Option Int} {m : Nk} (h : stepG ops st m = some st') : st'.2 = some m.at_ := (stepG_opens h).2.1
theorem runG_prefix {ops : List Int} {M : List Nk} {o : Nat} {p : Option Int} (h : runG ops M (0, none) = some (o, p)) : ∀ k, k ≤ M.length → ∃ o', runG ops (M.take k) (0, none) = some (o', lastAt M k)
  | 0, _ => ⟨0, by simp [runG, lastAt]⟩
  | k + 1, hk => by
    obtain ⟨o', ih⟩ := runG_prefix h k (by omega)
    obtain ⟨m, hm⟩ : ∃ m, M[k]? = some m := ⟨_, List.getElem?_eq_getElem (by omega)⟩
    have e : M = M.take k ++ m :: M.drop (k + 1) := by rw [← drop_at M k m hm, List.take_append_drop]
    rw [e, runG_append, ih] at h
    simp only [Option.bind_some, runG] at h
    cases hs : stepG ops (o', lastAt M k) m with
    | none => rw [hs] at h; simp at h
    | some st =>
      refine ⟨st.1, ?_⟩
      rw [List.take_add_one, hm, runG_append, ih]
      simp only [Option.bind_some, Option.toList_some, runG, hs]
      have := stepG_snd hs
      simp only [lastAt, hm, Option.map_some]
      rw [← this]
theorem runG_step {ops : List Int} {M : List Nk} {o : Nat} {p : Option Int} (h : runG ops M (0, none) = some (o, p)) {k o' : Nat} {m : Nk} (hk : runG ops (M.take k) (0, none) = some (o', lastAt M k)) (hm : M[k]? = some m) :
    (∀ q, lastAt M k = some q → ¬ m.at_ < q) ∧ (m.shut = true → 0 ≤ m.sock ∧ m.sock < (o' : Int) ∧ runG ops (M.take (k + 1)) (0, none) = some (o', lastAt M (k + 1))) ∧
    (m.shut = false → m.sock = (o' : Int) ∧ ops[o']? = some m.at_ ∧ runG ops (M.take (k + 1)) (0, none) = some (o' + 1, lastAt M (k + 1))) := by
  have e : M = M.take k ++ m :: M.drop (k + 1) := by rw [← drop_at M k m hm, List.take_append_drop]
  rw [e, runG_append, hk] at h
  simp only [Option.bind_some, runG] at h
  have hn : ∀ st, stepG ops (o', lastAt M k) m = some st → runG ops (M.take (k + 1)) (0, none) = some st := fun st hs => by
    rw [List.take_add_one, hm, runG_append, hk]
    simp only [Option.bind_some, Option.toList_some, runG, hs]
  have hl : lastAt M (k + 1) = some m.at_ := by simp [lastAt, hm]
  rw [hl]
  unfold stepG at h hn
  dsimp only at h hn
  split at h
  · simp at h
  · rename_i h1
    rw [if_neg h1] at hn
    refine ⟨fun q hq hlt => h1 ⟨q, hq, hlt⟩, fun hs => ?_, fun hs => ?_⟩
    · rw [if_pos hs] at h hn
      split at h
      · rename_i h2
        exact ⟨h2.1, h2.2, hn _ (by rw [if_pos h2])⟩
      · simp at h
    · rw [if_neg (by simp [hs])] at h hn
      split at h
      · rename_i h2
        exact ⟨h2.1, h2.2, hn _ (by rw [if_pos h2])⟩
      · simp at h
/-- How often each was shut, so far. -/
def shutT (n : Nat) (M : List Nk) : List Int := (List.range n).map (fun j => (shutsOf M j : Int))
theorem shutT_at {n : Nat} {M : List Nk} {j : Nat} (h : j < n) : (shutT n M)[j]? = some (shutsOf M j : Int) := by simp [shutT, h]
theorem shutT_open {n : Nat} {M : List Nk} {m : Nk} (h : m.shut = false) : shutT n (M ++ [m]) = shutT n M := by
  unfold shutT
  apply List.map_congr_left
  intro j _
  rw [shutsOf_append]
  simp [shutsOf, h]
theorem shutT_shut {n : Nat} {M : List Nk} {m : Nk} (h : m.shut = true) (h0 : 0 ≤ m.sock) : shutT n (M ++ [m]) = (shutT n M).set m.sock.toNat ((shutsOf M m.sock.toNat : Int) + 1) := by
  apply List.ext_getElem?
  intro j
  rw [List.getElem?_set]
  by_cases hj : j < n
  · rw [shutT_at hj, shutsOf_append]
    by_cases he : m.sock.toNat = j
    · have hs : m.sock = (j : Int) := by omega
      rw [if_pos he, if_pos (by simp [shutT]; omega), he]
      simp [shutsOf, h, hs]
    · have hs : ¬ m.sock = (j : Int) := by omega
      rw [if_neg he, shutT_at hj]
      simp [shutsOf, h, hs]
  · have e1 : (shutT n (M ++ [m]))[j]? = none := List.getElem?_eq_none (by simp [shutT]; omega)
    have e2 : (shutT n M)[j]? = none := List.getElem?_eq_none (by simp [shutT]; omega)
    rw [e1, e2]
    split
    · split
      · rename_i h1 h2
        simp [shutT] at h2
        omega
      · rfl
    · rfl
def arrI (l : List Int) : Array Value := (l.map (Value.int .i64)).toArray
theorem arrI_set (l : List Int) (k : Nat) (x : Int) : (arrI l).setIfInBounds k (.int .i64 x) = arrI (l.set k x) := by
  unfold arrI
  apply Array.ext'
  simp [List.map_set]
theorem arrI_at {w : World} {g : Nat} {l : List Int} {t : TypeId} (h : w.heap[g]? = some (.cells (arrI l) t (0, 0))) {k : Nat} {x : Int} (hx : l[k]? = some x) : w.cell? ⟨g, k, none⟩ = some (.int .i64 x) ∧ w.frozen? ⟨g, k, none⟩ = false := by
  constructor
  · simp only [World.cell?, h]
    simp [arrI, hx]
  · simp [World.frozen?, h]
theorem run_made_i (w : World) (n : Nat) (hn : n ≤ 4000) : (Instr.makeSlice 24 (.int .i64 n) (.int .i64 n)).run Try.prog w = .ok (.slice (some ⟨w.heap.size, 0, none⟩) n n) (w.alloc (.cells (arrI (List.replicate n 0)) 3)) := by
  obtain ⟨i0, hi, hz0, hz1, hz2⟩ := info_parts IK.hi
  have h := run_makeSlice (P := Try.prog) (w := w) 24 3 i0 IK.z IK.hu hi hz0 .i64 .i64 n n (by omega) (by omega) (by rw [hz1]; show (n : Int).toNat * 1 ≤ _; omega) (by rw [hz2]; show ((8 : Nat) : Int) * (n : Int) ≤ _; omega) (by omega)
  rw [hz1, Int.toNat_natCast] at h
  have e : madeCells IK.z.cells (n * IK.k) = arrI (List.replicate n 0) := by
    show madeCells #[Value.int .i64 0] (n * 1) = _
    rw [Nat.mul_one]
    unfold madeCells arrI
    apply Array.ext
    · simp
    · intro i h1 h2
      simp [Nat.mod_one]
  rw [e] at h
  exact h
theorem shutT_nil (n : Nat) : shutT n [] = List.replicate n 0 := by
  apply List.ext_getElem?
  intro j
  by_cases hj : j < n
  · rw [shutT_at hj]; simp [shutsOf, hj]
  · rw [List.getElem?_eq_none (by simp [shutT]; omega), List.getElem?_eq_none (by simp; omega)]
end Go.Proofs.Ytciohjgcndgiaaa
