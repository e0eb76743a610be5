/- Rows in memory of the call's own that may begin anywhere in their block, appended to. Nothing here knows the program. -/
import Derived.Test.YtpncgcaepdkcnaaKit
import Derived.Deep.Upon
import Derived.Deep.MidRow
set_option linter.unusedSimpArgs false
set_option linter.unusedVariables false
namespace Go.Proofs.Ytpncgcaepdkcnaa
open Go.RowKit
theorem size_setCells (b : Nat) : ∀ (vs : List Value) (o : Nat) (w : World), (w.setCells b o vs).heap.size = w.heap.size
  | [], _, _ => rfl
  | v :: r, o, w => by rw [World.setCells, size_setCells b r]; simp
theorem tape_setCells (b : Nat) : ∀ (vs : List Value) (o : Nat) (w : World), (w.setCells b o vs).tape = w.tape
  | [], _, _ => rfl
  | v :: r, o, w => by rw [World.setCells, tape_setCells b r]; rfl
namespace Kind
section
variable {Pr : Program} {α : Type} (K : Kind Pr α)

/-- A row with its room, from block base on, wherever it begins in its block. -/
def Loose (w : World) (base : Nat) (a : Option Addr) (c : Nat) (l : List α) : Prop :=
  l.length ≤ c ∧ c ≤ maxLen ∧ (a = none → c = 0) ∧ (0 < c → ∃ g o, a = some ⟨g, o, none⟩ ∧ base ≤ g ∧ g < w.heap.size ∧ (∀ j, j < c * K.k → (w.cell? ⟨g, o + j, none⟩).isSome = true ∧ w.frozen? ⟨g, o + j, none⟩ = false) ∧ K.At w g o l)
variable {K}
theorem loose_nil (w : World) (base : Nat) : K.Loose w base none 0 [] := ⟨by simp, by simp, fun _ => rfl, fun h => by omega⟩
theorem Loose.row {w : World} {base : Nat} {a : Option Addr} {c : Nat} {l : List α} (h : K.Loose w base a c l) : K.RowC w a c l :=
  ⟨h.1, h.2.1, h.2.2.1, fun hl => by
    have := h.1
    obtain ⟨g, o, h1, _, h2, _, h3⟩ := h.2.2.2 (by omega)
    exact ⟨g, o, h1, h2, h3⟩⟩
theorem loose_same {w w' : World} {base : Nat} {a : Option Addr} {c : Nat} {l : List α} (h : K.Loose w base a c l) (hs : w.heap.size ≤ w'.heap.size) (hb : ∀ ad, a = some ad → w'.heap[ad.block]? = w.heap[ad.block]?) : K.Loose w' base a c l :=
  ⟨h.1, h.2.1, h.2.2.1, fun hc => by
    obtain ⟨g, o, h1, h2, h3, h4, h5⟩ := h.2.2.2 hc
    have hg := hb _ h1
    refine ⟨g, o, h1, h2, by omega, fun j hj => ?_, fun j x hx i v hv => ?_⟩
    · rw [World.cell?_of_block (w := w) (w' := w') (a := ⟨g, o + j, none⟩) hg, World.frozen?_of_block (w := w) (w' := w') (a := ⟨g, o + j, none⟩) hg]
      exact h4 j hj
    · rw [World.cell?_of_block (w := w) (w' := w') (a := ⟨g, o + j * K.k + i, none⟩) hg]
      exact h5 j x hx i v hv⟩
theorem Loose.below {w w' : World} {base : Nat} {a : Option Addr} {c : Nat} {l : List α} (h : K.Loose w base a c l) (hb : Below w.heap.size w w') : K.Loose w' base a c l :=
  ⟨h.1, h.2.1, h.2.2.1, fun hc => by
    obtain ⟨g, o, h1, h2, h3, h4, h5⟩ := h.2.2.2 hc
    have hg := hb.block g h3
    have hs := hb.size
    refine ⟨g, o, h1, h2, by omega, fun j hj => ?_, fun j x hx i v hv => ?_⟩
    · rw [World.cell?_of_block (w := w) (w' := w') (a := ⟨g, o + j, none⟩) hg, World.frozen?_of_block (w := w) (w' := w') (a := ⟨g, o + j, none⟩) hg]
      exact h4 j hj
    · rw [World.cell?_of_block (w := w) (w' := w') (a := ⟨g, o + j * K.k + i, none⟩) hg]
      exact h5 j x hx i v hv⟩
theorem Loose.set {w : World} {base : Nat} {a : Option Addr} {c : Nat} {l : List α} (h : K.Loose w base a c l) {p : Addr} (hp : p.block < base) (x : Value) : K.Loose (w.setCell p x) base a c l :=
  ⟨h.1, h.2.1, h.2.2.1, fun hc => by
    obtain ⟨g, o, h1, h2, h3, h4, h5⟩ := h.2.2.2 hc
    have hg : (w.setCell p x).heap[g]? = w.heap[g]? := Below.heap_setCell _ _ _ _ (by omega)
    refine ⟨g, o, h1, h2, by simpa using h3, fun j hj => ?_, fun j x hx i v hv => ?_⟩
    · rw [World.cell?_of_block (w := w) (a := ⟨g, o + j, none⟩) hg, World.frozen?_of_block (w := w) (a := ⟨g, o + j, none⟩) hg]
      exact h4 j hj
    · rw [World.cell?_of_block (w := w) (a := ⟨g, o + j * K.k + i, none⟩) hg]
      exact h5 j _ hx i v hv⟩
theorem Loose.drew {w : World} {base : Nat} {a : Option Addr} {c : Nat} {l : List α} (h : K.Loose w base a c l) : K.Loose w.drew base a c l := h
theorem At.tail {w : World} {b o : Nat} {l : List α} (h : K.At w b o l) (n : Nat) : K.At w b (o + n * K.k) (l.drop n) := fun j x hx i v hv => by
  rw [List.getElem?_drop] at hx
  have h1 := h (n + j) x hx i v hv
  rwa [Nat.add_mul, ← Nat.add_assoc] at h1
theorem Loose.drop {w : World} {base : Nat} {a a' : Option Addr} {c : Nat} {l : List α} (h : K.Loose w base a c l) (n : Nat) (hn : n ≤ l.length) (ha : a' = if c = n then a else a.map (·.add (n * K.k))) : K.Loose w base a' (c - n) (l.drop n) := by
  have hc1 := h.1
  have hc2 := h.2.1
  have hc3 := h.2.2.1
  subst ha
  refine ⟨by simp; omega, by omega, fun e => ?_, fun hc => ?_⟩
  · split at e
    · omega
    · rw [Option.map_eq_none_iff] at e
      have := hc3 e; omega
  · obtain ⟨g, o, h1, h2, h3, h4, h5⟩ := h.2.2.2 (by omega)
    refine ⟨g, o + n * K.k, ?_, h2, h3, fun j hj => ?_, h5.tail n⟩
    · rw [if_neg (by omega), h1]; simp [add_at']
    · have h6 : n * K.k + j < c * K.k := by
        have h7 : (c - n) * K.k + n * K.k = c * K.k := by rw [← Nat.add_mul]; congr 1; omega
        omega
      have := h4 (n * K.k + j) h6
      rwa [← Nat.add_assoc] at this
theorem Own.loose {w : World} {base : Nat} {a : Option Addr} {n c : Nat} {l : List α} (h : K.Own w base (.slice a n c) l) : K.Loose w base a c l := by
  rcases h.2 with ⟨h1, h2⟩ | ⟨g, cap, cur, h1, h2, h3, h4, h5, h6, h7⟩
  · injection h1 with e1 e2 e3
    subst e1 e3
    obtain rfl : l = [] := List.length_eq_zero_iff.1 h2
    exact loose_nil _ _
  · injection h1 with e1 e2 e3
    subst e1 e3
    refine ⟨h4, h5, (fun e => by cases e), fun hc => ⟨g, 0, rfl, h2, lt_heap' h3, fun j hj => ?_, ?_⟩⟩
    · have hj2 : j < cur.size := by rw [h6]; exact hj
      simp [World.cell?, World.frozen?, h3, hj2]
    · refine at_of h3 (by rw [h6]; exact Nat.mul_le_mul_right _ h4) ?_
      exact h7
/-- What is behind a row, written out in cells. -/
theorem At.more {w : World} {g o : Nat} {l k : List α} {c : Nat} (h : K.At w g o l) (hroom : l.length + k.length ≤ c) (hs : ∀ j, j < c * K.k → (w.cell? ⟨g, o + j, none⟩).isSome = true) :
    K.At (w.setCells g (o + l.length * K.k) (K.all k)) g o (l ++ k) := by
  intro j x hx i v hv
  have hi : i < K.k := by have := (List.getElem?_eq_some_iff.1 hv).1; rwa [K.hk] at this
  have hkl := K.all_length k
  by_cases hj : j < l.length
  · rw [List.getElem?_append_left hj] at hx
    have hlt : j * K.k + i < l.length * K.k := by
      have h1 : (j + 1) * K.k ≤ l.length * K.k := Nat.mul_le_mul_right _ hj
      rw [Nat.add_mul, Nat.one_mul] at h1
      omega
    rw [World.cell?_setCells_out g _ _ w ⟨g, o + j * K.k + i, none⟩ (fun _ _ => .inl (by show o + j * K.k + i < _; omega))]
    exact h j x hx i v hv
  · rw [List.getElem?_append_right (by omega)] at hx
    have hjk : j - l.length < k.length := (List.getElem?_eq_some_iff.1 hx).1
    have e1 := K.all_get k (j - l.length) x hx i hi
    rw [hv] at e1
    obtain ⟨hlt, e2⟩ := List.getElem?_eq_some_iff.1 e1
    have hmul : (j - l.length) * K.k + l.length * K.k = j * K.k := by rw [← Nat.add_mul]; congr 1; omega
    have h3 := World.cell?_setCells_in g (K.all k) (o + l.length * K.k) w (fun m hm => by
      have h4 : l.length * K.k + m < c * K.k := by
        have h5 : (l.length + k.length) * K.k ≤ c * K.k := Nat.mul_le_mul_right _ hroom
        rw [Nat.add_mul] at h5
        omega
      have h6 := hs _ h4
      rwa [← Nat.add_assoc] at h6) ((j - l.length) * K.k + i) hlt
    rw [show o + l.length * K.k + ((j - l.length) * K.k + i) = o + j * K.k + i by omega] at h3
    rw [h3, e2]

set_option maxHeartbeats 1000000 in
theorem run_append_loose (w : World) (ty : TypeId) (base : Nat) (a : Option Addr) (c n : Nat) (l : List α) (hn : n = l.length) (hD : K.Loose w base a c l) (b : Option Addr) (d m : Nat) (k : List α) (hm : m = k.length) (hk : 0 < k.length) (hR : K.RowC w b d k) (hlen : l.length + k.length ≤ 4000000) (hbase : base ≤ w.heap.size) :
    ∃ a' c' w', (Builtin.append_ #[K.S, K.S] ty #[.slice a n c, .slice b m d]).run Pr w = .ok (.slice a' (l ++ k).length c') w' ∧ K.Loose w' base a' c' (l ++ k) ∧ (∃ row, w.grownBy w' row ∧ ∀ j, row = some j → base ≤ j ∧ 0 < c ∧ ∃ ad, a = some ad ∧ ad.block = j) ∧ ((∃ g, a' = some ⟨g, 0, none⟩ ∧ w.heap.size ≤ g) ∨ (a' = a ∧ 0 < c)) := by
  obtain ⟨i0, hi, hz0, hz1, hz2⟩ := info_parts K.hi
  have hbb := K.small_bytes (l.length + k.length) hlen
  obtain ⟨b0, o, rfl, hb, hat⟩ := hR.2.2.2 hk
  subst hm hn
  by_cases hroom : l.length + k.length ≤ c
  · obtain ⟨g, p, rfl, h2, h3, h4, h5⟩ := hD.2.2.2 (by omega)
    have hsz : ∀ j, j < (K.all k).length → l.length * K.k + j < c * K.k := fun j hj => by
      rw [K.all_length] at hj
      have h7 : (l.length + k.length) * K.k ≤ c * K.k := Nat.mul_le_mul_right _ hroom
      rw [Nat.add_mul] at h7
      omega
    have hrun := run_append_room_cells (P := Pr) w K.S ty K.T i0 K.hu hi g p l.length c ⟨b0, o, none⟩ k.length d (K.all k) (by rw [hz1]; exact K.all_length k) hat.src (K.all_cells k) hroom
      (fun j hj => by rw [hz1]; have := (h4 _ (hsz j hj)).1; rwa [← Nat.add_assoc] at this) (fun j hj => by rw [hz1]; have := (h4 _ (hsz j hj)).2; rwa [← Nat.add_assoc] at this)
    rw [hz1] at hrun
    refine ⟨some ⟨g, p, none⟩, c, _, by rw [List.length_append]; exact hrun, ⟨by rw [List.length_append]; exact hroom, hD.2.1, (fun e => by cases e), fun _ => ⟨g, p, rfl, h2, ?_, fun j hj => ⟨World.isSome_setCells _ _ _ _ _ (h4 j hj).1, by rw [World.frozen?_setCells]; exact (h4 j hj).2⟩, h5.more hroom (fun j hj => (h4 j hj).1)⟩⟩, ⟨some g, ?_, fun j e => by injection e with e; subst e; exact ⟨h2, by omega, _, rfl, rfl⟩⟩, .inr ⟨rfl, by omega⟩⟩
    · rw [size_setCells]; exact h3
    · exact ⟨World.os_setCells _ _ _ _, tape_setCells _ _ _ _, World.output_setCells _ _ _ _, by rw [size_setCells]; exact Nat.le_refl _, fun j hj hne => World.heap_setCells_other _ _ _ _ hj (by intro e; exact hne (by rw [e]))⟩
  · cases a with
    | none =>
      have hc0 := hD.2.2.1 rfl
      obtain rfl : l = [] := List.length_eq_zero_iff.1 (by have := hD.1; omega)
      subst hc0
      obtain ⟨v', w', r1, r2, r3, _⟩ := run_append_own (P := Pr) (w := w) w.heap.size K.S ty K.T i0 K.z K.k K.bytes K.hu hi hz0 hz1 hz2 K.hz K.hk0 _ _ _ (World.ownsRow_nil w w.heap.size K.T K.k) ⟨b0, o, none⟩ k.length d (K.all k) (K.all_length k) hat.src (K.all_cells k) (by unfold maxLen; omega) (by simpa using hbb) (Nat.le_refl _)
      have r2 : K.Own w' w.heap.size v' ([] ++ k) := by unfold Own; rw [K.all_append, List.length_append]; exact r2
      obtain ⟨a', c', rfl, hmine⟩ := r2.mine
      have hl := (Own.mono r2 hbase).loose
      refine ⟨a', c', w', r1, hl, ⟨none, r3, fun j e => by cases e⟩, .inl ?_⟩
      obtain ⟨g, cur, t, e1, e2, _⟩ := hmine.2.2.2 (by simpa using hk)
      exact ⟨g, e1, e2⟩
    | some ad =>
      obtain ⟨v', w', r1, r2, r3⟩ := run_append_arg_grows (P := Pr) (w := w) K.S ty K.T i0 K.z K.k K.bytes K.hu hi hz0 hz1 hz2 K.hz K.hk0 ad l.length c (K.all l) (K.all_length l) (fun j u hu => by
          have hj : j < l.length * K.k := by rw [← K.all_length]; exact (List.getElem?_eq_some_iff.1 hu).1
          have hl0 : 0 < l.length := by rcases Nat.eq_zero_or_pos l.length with h | h; rw [h, Nat.zero_mul] at hj; omega; exact h
          obtain ⟨g, p, e, _, _, _, h5⟩ := hD.2.2.2 (by have := hD.1; omega)
          injection e with e
          subst e
          exact h5.src j u hu) ⟨b0, o, none⟩ k.length d (K.all k) (K.all_length k) hat.src (by omega) (by unfold maxLen; omega) hbb
      have r2 : K.Own w' w.heap.size v' (l ++ k) := by unfold Own; rw [K.all_append, List.length_append]; exact r2
      obtain ⟨a', c', rfl, hmine⟩ := r2.mine
      have hl := (Own.mono r2 hbase).loose
      refine ⟨a', c', w', r1, hl, ⟨none, r3, fun j e => by cases e⟩, .inl ?_⟩
      obtain ⟨g, cur, t, e1, e2, _⟩ := hmine.2.2.2 (by rw [List.length_append]; omega)
      exact ⟨g, e1, e2⟩

theorem wpList_append_loose (K : Kind Pr α) {w : World} {ops : Array Oper} {rest : List Oper} {o : Oper} {act : Act} {Q : Exit → Act → World → Prop} (hgd : o.guard = none) (s x : Operand)
    (ho : o.op = .call { callee := .builtin .append, args := #[s, x], argTypes := #[K.S, K.S] })
    (base : Nat) (a : Option Addr) (n c : Nat) (hs : act.eval s = .slice a n c) (l : List α) (hn : n = l.length) (hD : K.Loose w base a c l) (b : Option Addr) (m d : Nat) (hx : act.eval x = .slice b m d) (k : List α) (hm : m = k.length) (hk : 0 < k.length) (hR : K.RowC w b d k) (hlen : l.length + k.length ≤ 4000000) (hbase : base ≤ w.heap.size)
    (L : List α) (hL : L = l ++ k)
    (h : ∀ a' c' w', K.Loose w' base a' c' L → (∃ row, w.grownBy w' row ∧ ∀ j, row = some j → base ≤ j ∧ 0 < c ∧ ∃ ad, a = some ad ∧ ad.block = j) → ((∃ g, a' = some ⟨g, 0, none⟩ ∧ w.heap.size ≤ g) ∨ (a' = a ∧ 0 < c)) → wpList Pr ops Q rest (act.put o.dst (.slice a' L.length c')) w') : wpList Pr ops Q (o :: rest) act w := by
  refine wpList_plain hgd fun K' hK' => ?_
  obtain ⟨a', c', w', hrun, r1, r2, r3⟩ := run_append_loose w o.type base a c n l hn hD b d m k hm hk hR hlen hbase
  rw [← hL] at r1 hrun
  unfold Oper.wp
  simp [execOp, ho, resolve, invoke, builtin, hs, hx, hrun, Result.andThen]
  exact hK' _ _ (h a' c' w' r1 r2 r3)
end
end Kind
end Go.Proofs.Ytpncgcaepdkcnaa
