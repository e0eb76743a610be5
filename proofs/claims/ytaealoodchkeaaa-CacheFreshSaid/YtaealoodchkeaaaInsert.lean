/- What slices.Insert wants: a plot (cells of one's own somewhere in a block), copied into; append of a number of zero elements; slices.overlaps of two blocks. Nothing here knows the program. -/
import Derived.Test.YtaealoodchkeaaaLoose
import Derived.Lib.Overlaps
import Derived.Lib.AppendZerosOnto
import Derived.Laws.IdiomCopy
import Derived.Laws.AppendOwn
set_option linter.unusedSimpArgs false
set_option linter.unusedVariables false
namespace Go.Proofs.Ytaealoodchkeaaa
open Go.RowKit
namespace Kind
section
variable {Pr : Program} {α : Type} (K : Kind Pr α)

/-- Room for c elements from cell o of block g on, the first of which are l. -/
def Plot (w : World) (base g o c : Nat) (l : List α) : Prop :=
  l.length ≤ c ∧ base ≤ g ∧ g < w.heap.size ∧ (∀ j, j < c * K.k → (w.cell? ⟨g, o + j, none⟩).isSome = true ∧ w.frozen? ⟨g, o + j, none⟩ = false) ∧ K.At w g o l
variable {K}
theorem Loose.plot {w : World} {base : Nat} {a : Option Addr} {c : Nat} {l : List α} (h : K.Loose w base a c l) (hc : 0 < c) : ∃ g o, a = some ⟨g, o, none⟩ ∧ K.Plot w base g o c l := by
  obtain ⟨g, o, h1, h2, h3, h4, h5⟩ := h.2.2.2 hc
  exact ⟨g, o, h1, h.1, h2, h3, h4, h5⟩
theorem Plot.loose {w : World} {base g o c : Nat} {l : List α} (h : K.Plot w base g o c l) (hc : c ≤ maxLen) : K.Loose w base (some ⟨g, o, none⟩) c l :=
  ⟨h.1, hc, (fun e => by cases e), fun _ => ⟨g, o, rfl, h.2⟩⟩
theorem Plot.mono {w : World} {base b2 g o c : Nat} {l : List α} (h : K.Plot w base g o c l) (hb : b2 ≤ base) : K.Plot w b2 g o c l := ⟨h.1, Nat.le_trans hb h.2.1, h.2.2⟩
theorem Plot.drew {w : World} {base g o c : Nat} {l : List α} (h : K.Plot w base g o c l) : K.Plot w.drew base g o c l := h
theorem Plot.below {w w' : World} {base g o c : Nat} {l : List α} (h : K.Plot w base g o c l) (hb : Below w.heap.size w w') : K.Plot w' base g o c l := by
  obtain ⟨h1, h2, h3, h4, h5⟩ := h
  have hg := hb.block g h3
  have hs := hb.size
  refine ⟨h1, h2, by omega, fun j hj => ?_, fun j x hx i v hv => ?_⟩
  · rw [World.cell?_of_block (w := w) (w' := w') (a := ⟨g, o + j, none⟩) hg, World.frozen?_of_block (w := w) (w' := w') (a := ⟨g, o + j, none⟩) hg]
    exact h4 j hj
  · rw [World.cell?_of_block (w := w) (w' := w') (a := ⟨g, o + j * K.k + i, none⟩) hg]
    exact h5 j x hx i v hv
theorem Plot.row {w : World} {base g o c : Nat} {l : List α} (h : K.Plot w base g o c l) (hc : c ≤ maxLen) : K.RowC w (some ⟨g, o, none⟩) c l := (h.loose hc).row
theorem all_size (k : List α) : (K.all k).length = k.length * K.k := K.all_length k
/-- Elements written over a plot. -/
theorem Plot.write {w : World} {base g o c : Nat} {l : List α} (h : K.Plot w base g o c l) (k : List α) (p : Nat) (hp : p ≤ l.length) (hpc : p + k.length ≤ c) :
    K.Plot (w.setCells g (o + p * K.k) (K.all k)) base g o c (l.take p ++ k ++ l.drop (p + k.length)) := by
  obtain ⟨h1, h2, h3, h4, h5⟩ := h
  have hkl := K.all_length k
  have hin : ∀ m, m < (K.all k).length → (w.cell? ⟨g, o + p * K.k + m, none⟩).isSome = true := fun m hm => by
    have h6 : p * K.k + m < c * K.k := by
      have h7 : (p + k.length) * K.k ≤ c * K.k := Nat.mul_le_mul_right _ hpc
      rw [Nat.add_mul] at h7
      omega
    have := (h4 _ h6).1
    rwa [← Nat.add_assoc] at this
  refine ⟨?_, h2, by rw [size_setCells]; exact h3, fun j hj => ⟨World.isSome_setCells _ _ _ _ _ (h4 j hj).1, by rw [World.frozen?_setCells]; exact (h4 j hj).2⟩, ?_⟩
  · simp only [List.length_append, List.length_take, List.length_drop]
    omega
  intro j x hx i v hv
  have hi : i < K.k := by have := (List.getElem?_eq_some_iff.1 hv).1; rwa [K.hk] at this
  have hmul : ∀ a b : Nat, a + 1 ≤ b → a * K.k + K.k ≤ b * K.k := fun a b hab => by
    have := Nat.mul_le_mul_right K.k hab
    rwa [Nat.add_mul, Nat.one_mul] at this
  rw [List.append_assoc] at hx
  have htl : (l.take p).length = p := by rw [List.length_take]; omega
  by_cases hj : j < p
  · rw [List.getElem?_append_left (by omega), List.getElem?_take, if_pos hj] at hx
    have := hmul j p hj
    rw [World.cell?_setCells_out g _ _ w ⟨g, o + j * K.k + i, none⟩ (fun _ _ => .inl (by show o + j * K.k + i < _; omega))]
    exact h5 j x hx i v hv
  · rw [List.getElem?_append_right (by omega), htl] at hx
    by_cases hj2 : j - p < k.length
    · rw [List.getElem?_append_left hj2] at hx
      have e1 := K.all_get k (j - p) x hx i hi
      rw [hv] at e1
      obtain ⟨hlt, e2⟩ := List.getElem?_eq_some_iff.1 e1
      have hm2 : (j - p) * K.k + p * K.k = j * K.k := by rw [← Nat.add_mul]; congr 1; omega
      have h8 := World.cell?_setCells_in g (K.all k) (o + p * K.k) w hin ((j - p) * K.k + i) hlt
      rw [show o + p * K.k + ((j - p) * K.k + i) = o + j * K.k + i by omega] at h8
      rw [h8, e2]
    · rw [List.getElem?_append_right (by omega), List.getElem?_drop, show p + k.length + (j - p - k.length) = j by omega] at hx
      have h9 : (p + k.length) * K.k ≤ j * K.k := Nat.mul_le_mul_right _ (by omega)
      rw [Nat.add_mul] at h9
      rw [World.cell?_setCells_out g _ _ w ⟨g, o + j * K.k + i, none⟩ (fun _ _ => .inr (by show _ ≤ o + j * K.k + i; rw [hkl]; omega))]
      exact h5 j x hx i v hv
theorem grown_setCells (w : World) (g o : Nat) (vs : List Value) : w.grownBy (w.setCells g o vs) (some g) :=
  ⟨World.os_setCells _ _ _ _, tape_setCells _ _ _ _, World.output_setCells _ _ _ _, by rw [size_setCells]; exact Nat.le_refl _, fun j hj hne => World.heap_setCells_other _ _ _ _ hj (by intro e; exact hne (by rw [e]))⟩

theorem run_copy_kind (w : World) (ty : TypeId) (g q dl dc : Nat) (a : Addr) (sl sc : Nat) (k : List α) (hs : Nat.min sl dl = k.length)
    (hsrc : ∀ j v, (K.all k)[j]? = some v → w.cell? (a.add j) = some v) (hc : ∀ j, j < k.length * K.k → (w.cell? ⟨g, q + j, none⟩).isSome = true) (hf : ∀ j, j < k.length * K.k → w.frozen? ⟨g, q + j, none⟩ = false) :
    (Builtin.copy_ #[K.S, K.S] ty #[.slice (some ⟨g, q, none⟩) dl dc, .slice (some a) sl sc]).run Pr w = .ok (goInt k.length) (w.setCells g q (K.all k)) := by
  obtain ⟨i0, hi, hz0, hz1, hz2⟩ := info_parts K.hi
  have hl := run_loadCells_list (P := Pr) w a (K.all k) hsrc
  rw [K.all_length] at hl
  have hst := run_storeCells_cells (P := Pr) g q (K.all k) 0 w (by rw [K.all_length]; simpa using hc) (by rw [K.all_length]; simpa using hf) (K.all_cells k)
  have hs' : min sl dl = k.length := hs
  simp [Builtin.copy_, run_underlying K.hu, Builtin.lenOf, Builtin.firstCells, sizeOf, typeInfo, hi, hz1, hs, hs', hl, hst]

theorem run_copy_plot {w : World} {base g o c : Nat} {l : List α} (h : K.Plot w base g o c l) (ty : TypeId) (q p dl dc : Nat) (hq : q = o + p * K.k) (a : Option Addr) (sl sc cc : Nat) (k : List α) (hk : 0 < k.length) (hs : Nat.min sl dl = k.length) (hR : K.RowC w a cc k) (hpc : p + k.length ≤ c) :
    (Builtin.copy_ #[K.S, K.S] ty #[.slice (some ⟨g, q, none⟩) dl dc, .slice a sl sc]).run Pr w = .ok (goInt k.length) (w.setCells g (o + p * K.k) (K.all k)) := by
  obtain ⟨b, r, rfl, _, hat⟩ := hR.2.2.2 hk
  have hin : ∀ j, j < k.length * K.k → p * K.k + j < c * K.k := fun j hj => by
    have h7 : (p + k.length) * K.k ≤ c * K.k := Nat.mul_le_mul_right _ hpc
    rw [Nat.add_mul] at h7
    omega
  subst hq
  exact run_copy_kind w ty g _ dl dc ⟨b, r, none⟩ sl sc k hs hat.src (fun j hj => by have := (h.2.2.2.1 _ (hin j hj)).1; rwa [← Nat.add_assoc] at this) (fun j hj => by have := (h.2.2.2.1 _ (hin j hj)).2; rwa [← Nat.add_assoc] at this)

theorem Plot.copied {w : World} {base g o c : Nat} {l : List α} (h : K.Plot w base g o c l) (S ty : TypeId) (hS : S = K.S) (q p dl dc : Nat) (hq : q = o + p * K.k) (a : Option Addr) (sl sc cc : Nat) (k : List α) (hk : 0 < k.length) (hs : Nat.min sl dl = k.length) (hR : K.RowC w a cc k) (hp : p ≤ l.length) (hpc : p + k.length ≤ c) (L : List α) (hL : L = l.take p ++ k ++ l.drop (p + k.length)) :
    ∃ w', (Builtin.copy_ #[S, S] ty #[.slice (some ⟨g, q, none⟩) dl dc, .slice a sl sc]).run Pr w = .ok (goInt k.length) w' ∧ K.Plot w' base g o c L ∧ w.grownBy w' (some g) := by
  subst hL hS
  exact ⟨_, run_copy_plot h ty q p dl dc hq a sl sc cc k hk hs hR hpc, h.write k p hp hpc, grown_setCells _ _ _ _⟩
variable (K)
theorem step_copy_kind {w : World} {ops : Array Oper} {o : Oper} {act : Act} {K' : Act → World → Prop} {Q : Exit → Act → World → Prop} {E : Prop} (hgd : o.guard = none) (d x : Operand)
    (ho : o.op = .call { callee := .builtin .copy, args := #[d, x], argTypes := #[K.S, K.S] })
    (base g r c : Nat) (l : List α) (hP : K.Plot w base g r c l) (q dl dc : Nat) (hd : act.eval d = .slice (some ⟨g, q, none⟩) dl dc) (p : Nat) (hq : q = r + p * K.k) (a : Option Addr) (sl sc cc : Nat) (hx : act.eval x = .slice a sl sc) (k : List α) (hk : 0 < k.length) (hs : Nat.min sl dl = k.length) (hR : K.RowC w a cc k) (hp : p ≤ l.length) (hpc : p + k.length ≤ c)
    (L : List α) (hL : L = l.take p ++ k ++ l.drop (p + k.length))
    (h : ∀ w', K.Plot w' base g r c L → w.grownBy w' (some g) → K' (act.put o.dst (goInt k.length)) w') : if Region.wanted o (yielded ops act.tmps) = true then Oper.wp Pr o act w K' Q else E := by
  have hw : Region.wanted o (yielded ops act.tmps) = true := by simp [Region.wanted, hgd]
  rw [if_pos hw]
  have hrun := run_copy_plot hP o.type q p dl dc hq a sl sc cc k hk hs hR hpc
  have hW := hP.write k p hp hpc
  rw [← hL] at hW
  unfold Oper.wp
  simp [execOp, ho, resolve, invoke, builtin, hd, hx, hrun, Result.andThen]
  exact h _ hW (grown_setCells _ _ _ _)

/-- 'append(s[:i], make([]T, m)...)' without room: a new plot, the first i elements in it. -/
theorem run_append_zeros (w : World) (TI ty : TypeId) (hI : Pr.underlying TI = some (.int .i64)) (b o i c m : Nat) (l : List α) (hl : l.length = i) (hat : K.At w b o l) (hm : 0 < m) (hg : c < i + m) (hbig : (i + m) * K.bytes ≤ 140737488355328) (h63 : i + m ≤ maxLen) :
    ∃ G w', (Builtin.append_ #[K.S, TI] ty #[.slice (some ⟨b, o, none⟩) i c, .int .i64 (m : Int)]).run Pr w = .ok (.slice (some ⟨w.heap.size, 0, none⟩) (i + m) G) w' ∧ K.Plot w' w.heap.size w.heap.size 0 G l ∧ i + m ≤ G ∧ G ≤ maxLen ∧ Below w.heap.size w w' := by
  obtain ⟨i0, hi0, hz0, hzs, hzb⟩ := info_parts K.hi
  have hk0 := K.hk0
  have hsmall : i + m ≤ 9223372036854775807 := by simp only [maxLen] at h63; omega
  have hold : (Builtin.firstCells i0.size i (.slice (some ⟨b, o, none⟩) i c)).run Pr w.drew = .ok (K.all l).toArray w.drew := by
    rw [hzs]
    exact run_firstCells_some (P := Pr) (w := w.drew) K.k i ⟨b, o, none⟩ i c (K.all l) (by rw [K.all_length, hl]) hat.src
  have hmb : m * K.bytes ≤ 281474976710656 := by
    have := Nat.mul_le_mul_right K.bytes (show m ≤ i + m by omega)
    omega
  have h := Lib.run_append_grow_zeros (P := Pr) w K.S TI ty K.T i0 K.z .i64 .i64 K.hu hI hi0 hz0 (some ⟨b, o, none⟩) i c (K.all l) hold m hm (by omega) hg (by omega) (by rw [hzb]; exact hmb) (by rw [hzb]; exact growslice_fits hg hbig)
  have hge := grownCap_ge w (i + m) c K.T
  have hcm := grownCap_le_maxLen w (i + m) c K.T h63
  have hsz : ((K.all l).toArray ++ Builtin.zeroCells K.z.cells m ++ Builtin.zeroCells K.z.cells (grownCap w (i + m) c K.T - (i + m))).size = grownCap w (i + m) c K.T * K.k := by
    simp only [Array.size_append, List.size_toArray, size_zeroCells, K.hz, K.all_length, hl, ← Nat.add_mul]
    congr 1
    omega
  refine ⟨_, _, h, ⟨by omega, Nat.le_refl _, by simp, fun j hj => ?_, ?_⟩, hge, hcm, ?_⟩
  · have hb := heap_alloc_new w.drew (.cells ((K.all l).toArray ++ Builtin.zeroCells K.z.cells m ++ Builtin.zeroCells K.z.cells (grownCap w (i + m) c K.T - (i + m))) K.T)
    have hb : (w.drew.alloc (.cells ((K.all l).toArray ++ Builtin.zeroCells K.z.cells m ++ Builtin.zeroCells K.z.cells (grownCap w (i + m) c K.T - (i + m))) K.T)).heap[w.heap.size]? = _ := hb
    rw [← hsz] at hj
    constructor
    · simp only [World.cell?, hb]
      simp only [Nat.zero_add]
      rw [Array.getElem?_eq_getElem hj]
      rfl
    · simp only [World.frozen?, hb]
      simp
  · have hb := heap_alloc_new w.drew (.cells ((K.all l).toArray ++ Builtin.zeroCells K.z.cells m ++ Builtin.zeroCells K.z.cells (grownCap w (i + m) c K.T - (i + m))) K.T)
    refine at_of (t := K.T) hb ?_ ?_
    · rw [hsz]; exact Nat.mul_le_mul_right _ (by omega)
    · simp only [Array.toList_append, List.append_assoc]
      rw [← K.all_length l]
      exact List.take_left
  · exact ((Below.refl w.heap.size w).drew).alloc (Nat.le_refl _) _
theorem wpList_append_zeros {w : World} {ops : Array Oper} {rest : List Oper} {o : Oper} {act : Act} {Q : Exit → Act → World → Prop} (hgd : o.guard = none) (s x : Operand) (TI : TypeId)
    (ho : o.op = .call { callee := .builtin .append, args := #[s, x], argTypes := #[K.S, TI] }) (hI : Pr.underlying TI = some (.int .i64))
    (b r i c : Nat) (hs : act.eval s = .slice (some ⟨b, r, none⟩) i c) (m : Nat) (z : Int) (hz : z = (m : Int)) (hx : act.eval x = .int .i64 z) (l : List α) (hl : l.length = i) (hat : K.At w b r l) (hm : 0 < m) (hg : c < i + m) (hbig : (i + m) * K.bytes ≤ 140737488355328) (h63 : i + m ≤ maxLen)
    (h : ∀ G w', K.Plot w' w.heap.size w.heap.size 0 G l → i + m ≤ G → G ≤ maxLen → Below w.heap.size w w' → wpList Pr ops Q rest (act.put o.dst (.slice (some ⟨w.heap.size, 0, none⟩) (i + m) G)) w') : wpList Pr ops Q (o :: rest) act w := by
  refine wpList_plain hgd fun K' hK' => ?_
  subst hz
  obtain ⟨G, w', hrun, h1, h2, h3, h4⟩ := run_append_zeros K w TI o.type hI b r i c m l hl hat hm hg hbig h63
  unfold Oper.wp
  simp [execOp, ho, resolve, invoke, builtin, hs, hx, hrun, Result.andThen]
  exact hK' _ _ (h G w' h1 h2 h3 h4)
variable {K}
/-- slices.overlaps of a row just laid and a plot in another block. -/
theorem run_overlaps_plot {w : World} {base g o c : Nat} {l : List α} (h : K.Plot w base g o c l) (hc : 0 < c) (TB : TypeId) (vb : Nat) (cur : Array Value) (t : TypeId) (hv : w.heap[vb]? = some (.cells cur t (0, 0))) (hne : vb ≠ g) (q la ca lb cb : Nat) :
    (Extern.SlicesOverlaps.overlaps #[K.S, K.S] #[TB] #[.slice (some ⟨vb, 0, none⟩) la ca, .slice (some ⟨g, q, none⟩) lb cb]).run Pr w = .ok (.bool false) w := by
  obtain ⟨i0, hi, hz0, hz1, hz2⟩ := info_parts K.hi
  have hk0 := K.hk0
  have hcell := (h.2.2.2.1 0 (Nat.mul_pos hc hk0)).1
  obtain ⟨cs, tB, fr, hb⟩ : ∃ cs tB fr, w.heap[g]? = some (.cells cs tB fr) := by
    unfold World.cell? at hcell
    split at hcell
    · rename_i cs tB fr hh
      exact ⟨cs, tB, fr, hh⟩
    · cases hcell
  have hsz : cs.size ≠ 0 := fun e => by
    simp only [World.cell?, hb] at hcell
    have : cs = #[] := Array.eq_empty_of_size_eq_zero e
    subst this
    simp at hcell
  exact Lib.run_overlaps_apart w K.S TB K.T K.hu K.k (fun w => by simp [sizeOf, typeInfo, hi, hz1]) ⟨vb, 0, none⟩ ⟨g, q, none⟩ la ca lb cb hne t tB cur.size cs.size (by simp [World.shape?, hv]) (by simp [World.shape?, hb]) hsz (by simp [World.frozen?, hv]) (by simp [World.frozen?, hv])
end
end Kind
end Go.Proofs.Ytaealoodchkeaaa
