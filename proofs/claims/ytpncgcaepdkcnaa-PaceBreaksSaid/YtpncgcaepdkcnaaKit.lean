/- Rows of whatever elements, in memory: read, of the call's own, appended to. Nothing here knows the program. -/
import Derived.WalkKit
import Derived.Handy
import Derived.WalkSpells
import Derived.WalkLawsBesides
import Derived.WalkSmall
import Derived.Lib.Hide
import Derived.Below
import Derived.Deep.Light
import Derived.Deep.LoopGhost
import Derived.Deep.QuietTactic
import Derived.BigQuiet
import Derived.ProofKit
import Derived.Laws.OwnMore
import Derived.OwnWalk
import Derived.Maps.AppendAt
import Derived.Deep.Onto
import Derived.ArgAppend
import Derived.Laws.AppendOwnNone
set_option linter.unusedSimpArgs false
set_option linter.unusedVariables false
namespace Go.Proofs.Ytpncgcaepdkcnaa
open Go.RowKit

/-- A kind of rows: how an element lies in cells, of which type it is, of which its slices are. -/
structure Kind (Pr : Program) (α : Type) where
  enc : α → List Value
  k : Nat
  T : TypeId
  S : TypeId
  z : Value
  bytes : Nat
  hk : ∀ x, (enc x).length = k
  h1 : ∀ x, ∀ v ∈ enc x, v.oneCell' = true
  hu : Pr.underlying S = some (.slice T)
  hi : (Pr.info? T).map (fun i => (i.zero, i.size, i.bytes)) = some (some z, k, bytes)
  hz : z.cells.size = k
  hk0 : 0 < k
  hb : bytes ≤ 10000

theorem lt_heap' {w : World} {g : Nat} {o : Obj} (h : w.heap[g]? = some o) : g < w.heap.size := (Array.getElem?_eq_some_iff.1 h).1
theorem add_at' (b a j : Nat) : ((⟨b, a, none⟩ : Addr).add j) = ⟨b, a + j, none⟩ := by
  unfold Addr.add
  split
  · rename_i h; have : j = 0 := by simpa using h
    subst this; rfl
  · rfl
theorem add_none' (a : Option Addr) : Option.map (fun x => x.add 0) a = a := by cases a <;> rfl

namespace Kind
section
variable {Pr : Program} {α : Type} (K : Kind Pr α)

def all (l : List α) : List Value := l.flatMap K.enc
theorem all_length (l : List α) : (K.all l).length = l.length * K.k := by
  induction l with
  | nil => simp [all]
  | cons x l ih =>
    have h : K.all (x :: l) = K.enc x ++ K.all l := by simp [all]
    rw [h, List.length_append, K.hk, ih, List.length_cons, Nat.add_mul, Nat.one_mul, Nat.add_comm]
theorem all_append (l m : List α) : K.all (l ++ m) = K.all l ++ K.all m := by simp [all]
theorem all_one (x : α) : K.all [x] = K.enc x := by simp [all]
theorem all_cells (l : List α) : ∀ u ∈ K.all l, u.oneCell' = true := by
  intro u hu
  obtain ⟨x, _, hx⟩ := List.mem_flatMap.1 hu
  exact K.h1 x u hx
theorem all_get (l : List α) : ∀ (j : Nat) (x : α), l[j]? = some x → ∀ i, i < K.k → (K.all l)[j * K.k + i]? = (K.enc x)[i]? := by
  induction l with
  | nil => intro j x h; simp at h
  | cons y l ih =>
    intro j x h i hi
    have e : K.all (y :: l) = K.enc y ++ K.all l := by simp [all]
    rw [e]
    cases j with
    | zero =>
      simp at h; subst h
      rw [List.getElem?_append_left (by rw [K.hk]; omega)]
      simp
    | succ j =>
      rw [List.getElem?_append_right (by rw [K.hk, Nat.add_mul]; omega), K.hk, Nat.add_mul, Nat.one_mul, show j * K.k + K.k + i - K.k = j * K.k + i by omega]
      exact ih j x (by simpa using h) i hi

/-- Elements that lie in a row. -/
def At (w : World) (b o : Nat) (l : List α) : Prop := ∀ j x, l[j]? = some x → ∀ i v, (K.enc x)[i]? = some v → w.cell? ⟨b, o + j * K.k + i, none⟩ = some v
variable {K}
theorem At.below {w w' : World} {b o B : Nat} {l : List α} (h : K.At w b o l) (hb : Below B w w') (hlt : b < B) : K.At w' b o l := fun j x hx i v hv => by
  rw [hb.cell (p := ⟨b, o + j * K.k + i, none⟩) hlt]; exact h j x hx i v hv
theorem At.src {w : World} {b o : Nat} {l : List α} (h : K.At w b o l) : ∀ (j : Nat) (u : Value), (K.all l)[j]? = some u → w.cell? ((⟨b, o, none⟩ : Addr).add j) = some u := by
  intro j u hu
  have hj : j < l.length * K.k := by rw [← K.all_length]; exact (List.getElem?_eq_some_iff.1 hu).1
  have hk0 := K.hk0
  have hd : j / K.k < l.length := (Nat.div_lt_iff_lt_mul hk0).2 hj
  have hm : j % K.k < K.k := Nat.mod_lt _ hk0
  obtain ⟨x, hx⟩ : ∃ x, l[j / K.k]? = some x := ⟨_, List.getElem?_eq_getElem hd⟩
  have e : j / K.k * K.k + j % K.k = j := by rw [Nat.mul_comm]; exact Nat.div_add_mod j K.k
  have h1 := K.all_get l (j / K.k) x hx (j % K.k) hm
  rw [e, hu] at h1
  have h2 := h (j / K.k) x hx (j % K.k) u h1.symm
  rwa [Nat.add_assoc, e, ← add_at'] at h2
variable (K)
/-- A row, wherever it lies; nothing is asked of an empty one's address. -/
def RowI (w : World) (a : Option Addr) (l : List α) : Prop := 0 < l.length → ∃ b o, a = some ⟨b, o, none⟩ ∧ b < w.heap.size ∧ K.At w b o l
/-- A row that is read, with the room behind it. -/
def RowC (w : World) (a : Option Addr) (c : Nat) (l : List α) : Prop := l.length ≤ c ∧ c ≤ maxLen ∧ (a = none → c = 0) ∧ K.RowI w a l
/-- A row in memory of the call's own. -/
def MineC (w : World) (base : Nat) (a : Option Addr) (c : Nat) (l : List α) : Prop :=
  l.length ≤ c ∧ c ≤ maxLen ∧ (a = none → c = 0) ∧ (0 < l.length → ∃ g cur t, a = some ⟨g, 0, none⟩ ∧ base ≤ g ∧ w.heap[g]? = some (.cells cur t (0, 0)) ∧ l.length * K.k ≤ cur.size ∧ cur.toList.take (l.length * K.k) = K.all l)
/-- What append is handed first: a row of the call's own, or nothing with no room. -/
def Dst (w : World) (base : Nat) (v : Value) (l : List α) : Prop := w.ownsRow base K.T K.k v l.length (K.all l) ∨ (l = [] ∧ ∃ ad, v = .slice ad 0 0)
variable {K}
theorem RowC.below {w w' : World} {a : Option Addr} {c : Nat} {l : List α} (h : K.RowC w a c l) (hb : Below w.heap.size w w') : K.RowC w' a c l := ⟨h.1, h.2.1, h.2.2.1, fun hl => by
  obtain ⟨b, o, h1, h2, h3⟩ := h.2.2.2 hl
  exact ⟨b, o, h1, Nat.lt_of_lt_of_le h2 hb.size, h3.below hb h2⟩⟩
theorem MineC.below {w w' : World} {base B : Nat} {a : Option Addr} {c : Nat} {l : List α} (h : K.MineC w base a c l) (hb : Below B w w') (hB : w.heap.size ≤ B) : K.MineC w' base a c l :=
  ⟨h.1, h.2.1, h.2.2.1, fun hl => by
    obtain ⟨g, cur, t, h1, h2, h3, h4, h5⟩ := h.2.2.2 hl
    exact ⟨g, cur, t, h1, h2, by rw [hb.block g (Nat.lt_of_lt_of_le (lt_heap' h3) hB)]; exact h3, h4, h5⟩⟩
theorem MineC.mono {w : World} {base b2 : Nat} {a : Option Addr} {c : Nat} {l : List α} (h : K.MineC w base a c l) (hb : b2 ≤ base) : K.MineC w b2 a c l :=
  ⟨h.1, h.2.1, h.2.2.1, fun hl => by
    obtain ⟨g, cur, t, h1, h2, h3, h4, h5⟩ := h.2.2.2 hl
    exact ⟨g, cur, t, h1, Nat.le_trans hb h2, h3, h4, h5⟩⟩
theorem at_of {w : World} {g : Nat} {cur : Array Value} {t : TypeId} {l : List α} (h3 : w.heap[g]? = some (.cells cur t (0, 0))) (h4 : l.length * K.k ≤ cur.size) (h5 : cur.toList.take (l.length * K.k) = K.all l) : K.At w g 0 l := by
  intro j x hx i v hv
  have hj : j < l.length := (List.getElem?_eq_some_iff.1 hx).1
  have hi : i < K.k := by have := (List.getElem?_eq_some_iff.1 hv).1; rwa [K.hk] at this
  have hlt : j * K.k + i < l.length * K.k := by
    have h1 : (j + 1) * K.k ≤ l.length * K.k := Nat.mul_le_mul_right _ hj
    rw [Nat.add_mul, Nat.one_mul] at h1
    omega
  have e : (cur.toList.take (l.length * K.k))[j * K.k + i]? = (K.all l)[j * K.k + i]? := by rw [h5]
  rw [List.getElem?_take, if_pos hlt, Array.getElem?_toList, K.all_get l j x hx i hi, hv] at e
  simp only [World.cell?, h3, Nat.zero_add]
  simpa using e
theorem MineC.row {w : World} {base : Nat} {a : Option Addr} {c : Nat} {l : List α} (h : K.MineC w base a c l) : K.RowC w a c l :=
  ⟨h.1, h.2.1, h.2.2.1, fun hl => by
    obtain ⟨g, cur, t, h1, h2, h3, h4, h5⟩ := h.2.2.2 hl
    exact ⟨g, 0, h1, lt_heap' h3, at_of h3 h4 h5⟩⟩
theorem mine_none (w : World) (base : Nat) : K.MineC w base none 0 [] := ⟨by simp, by simp, fun _ => rfl, fun h => by simp at h⟩
theorem row_none (w : World) : K.RowC w none 0 [] := (mine_none w 0).row
/-- A row that a call has just laid: as memory of its own, and as what append is handed. -/
theorem own_at (w : World) (l : List α) (c : Array Value) (g base : Nat) (hg : g = w.heap.size) (hb : base ≤ w.heap.size) (hc : c = (K.all l).toArray) (hm : l.length ≤ 100000) : (w.alloc (.cells c K.T)).ownsRow base K.T K.k (.slice (some ⟨g, 0, none⟩) l.length l.length) l.length (K.all l) := by
  subst hg hc
  refine ⟨K.all_length l, .inr ⟨w.heap.size, l.length, _, rfl, hb, heap_alloc_new w _, Nat.le_refl _, by unfold maxLen; omega, by simp [K.all_length], ?_⟩⟩
  simp [← K.all_length l]
theorem mine_at (w : World) (t : TypeId) (l : List α) (c : Array Value) (g n base : Nat) (hg : g = w.heap.size) (hb : base ≤ w.heap.size) (hn : n = l.length) (hc : c = (K.all l).toArray) (hm : l.length ≤ 100000) : K.MineC (w.alloc (.cells c t)) base (some ⟨g, 0, none⟩) n l := by
  subst hg hn hc
  exact ⟨Nat.le_refl _, by unfold maxLen; omega, (fun h => by cases h), fun _ => ⟨w.heap.size, _, t, rfl, hb, heap_alloc_new w _, by simp [K.all_length], by simp [← K.all_length l]⟩⟩
theorem rowC_at (w : World) (t : TypeId) (l : List α) (c : Array Value) (g n : Nat) (hg : g = w.heap.size) (hn : n = l.length) (hc : c = (K.all l).toArray) (hm : l.length ≤ 100000) : K.RowC (w.alloc (.cells c t)) (some ⟨g, 0, none⟩) n l :=
  (mine_at w t l c g n 0 hg (Nat.zero_le _) hn hc hm).row
/-- A row from its j-th element on, and up to it. -/
theorem RowC.drop {w : World} {a a' : Option Addr} {c : Nat} {l : List α} (h : K.RowC w a c l) (j : Nat) (hj : j ≤ l.length) (ha : a' = if c = j then a else a.map (·.add (j * K.k))) : K.RowC w a' (c - j) (l.drop j) := by
  obtain ⟨h1, h2, h3, h4⟩ := h
  subst ha
  refine ⟨by simp; omega, by omega, fun e => ?_, fun hl => ?_⟩
  · split at e
    · omega
    · rw [Option.map_eq_none_iff] at e
      have := h3 e; omega
  · have hlk : j < l.length := by simp at hl; omega
    obtain ⟨b, o, rfl, hb, hat⟩ := h4 (by omega)
    refine ⟨b, o + j * K.k, ?_, hb, fun i x hx p v hv => ?_⟩
    · rw [if_neg (by omega)]; simp [add_at']
    · rw [List.getElem?_drop] at hx
      have h := hat (j + i) x hx p v hv
      rwa [Nat.add_mul, ← Nat.add_assoc] at h
theorem RowC.take {w : World} {a a' : Option Addr} {c : Nat} {l : List α} (h : K.RowC w a c l) (j : Nat) (hj : j ≤ l.length) (ha : a' = a) : K.RowC w a' c (l.take j) := by
  obtain ⟨h1, h2, h3, h4⟩ := h
  subst ha
  refine ⟨by simp; omega, h2, h3, fun hl => ?_⟩
  have hlk : 0 < l.length := by simp at hl; omega
  obtain ⟨b, o, rfl, hb, hat⟩ := h4 hlk
  refine ⟨b, o, rfl, hb, fun i x hx => ?_⟩
  rw [List.getElem?_take] at hx
  split at hx
  · exact hat _ _ hx
  · cases hx
/-- What is handed back without room behind it. -/
theorem MineC.cut {w : World} {base : Nat} {a a' : Option Addr} {c : Nat} {l : List α} (h : K.MineC w base a c l) (ha : a' = a) : K.MineC w base a' l.length l := by
  obtain ⟨h1, h2, h3, h4⟩ := h
  subst ha
  exact ⟨Nat.le_refl _, by omega, fun e => by have := h3 e; omega, h4⟩
theorem Dst.mine {w : World} {base : Nat} {v : Value} {l : List α} (h : K.Dst w base v l) : ∃ a c, v = .slice a l.length c ∧ K.MineC w base a c l := by
  rcases h with h | ⟨rfl, ad, rfl⟩
  · rcases h.2 with ⟨rfl, h2⟩ | ⟨g, cap, cur, rfl, hb, hg, hc, hm, hs, ht⟩
    · obtain rfl : l = [] := List.length_eq_zero_iff.1 h2
      exact ⟨none, 0, rfl, mine_none _ _⟩
    · exact ⟨_, cap, rfl, hc, hm, (fun e => by cases e), fun hl => ⟨g, cur, _, rfl, hb, hg, by rw [hs]; exact Nat.mul_le_mul_right _ hc, by rw [← ht]⟩⟩
  · exact ⟨ad, 0, rfl, Nat.le_refl _, by simp, fun _ => rfl, fun h => by simp at h⟩
theorem Dst.below {w w' : World} {base B : Nat} {v : Value} {l : List α} (h : K.Dst w base v l) (hb : Below B w w') (hB : w.heap.size ≤ B) : K.Dst w' base v l := by
  rcases h with h | h
  · refine .inl ⟨h.1, ?_⟩
    rcases h.2 with h2 | ⟨g, cap, cur, rfl, b, c, d⟩
    · exact .inl h2
    · exact .inr ⟨g, cap, cur, rfl, b, by rw [hb.block g (Nat.lt_of_lt_of_le (lt_heap' c) hB)]; exact c, d⟩
  · exact .inr h
theorem Dst.grown {w w' : World} {base b : Nat} {v : Value} {l : List α} (h : K.Dst w base v l) (hg : w.grownBy w' (some b)) (hb : b < base) : K.Dst w' base v l := by
  rcases h with h | h
  · refine .inl (h.kept hg ?_)
    cases e : v.ownBlock with
    | none => exact .inl rfl
    | some k => refine .inr ?_; have := (h.lt k e).1; intro e2; injection e2 with e2; omega
  · exact .inr h
theorem Dst.mono {w : World} {base b2 : Nat} {v : Value} {l : List α} (h : K.Dst w base v l) (hb : b2 ≤ base) : K.Dst w b2 v l := by
  rcases h with h | h
  · exact .inl (h.mono hb)
  · exact .inr h
theorem dst_nil (w : World) (base : Nat) : K.Dst w base (.slice none 0 0) [] := .inl (World.ownsRow_nil _ _ _ _)
theorem dst_bare (w : World) (base : Nat) (ad : Option Addr) : K.Dst w base (.slice ad 0 0) [] := .inr ⟨rfl, _, rfl⟩

theorem run_append_bare (a ad : Option Addr) (c : Nat) (w : World) (ty : TypeId) (hn : ad = none → c = 0) : (Builtin.append_ #[K.S, K.S] ty #[.slice a 0 0, .slice ad 0 c]).run Pr w = .ok (.slice a 0 0) w := by
  obtain ⟨i0, hi, hz0, hz1, hz2⟩ := info_parts K.hi
  have ht := K.hu
  cases a <;> cases ad
  · have := hn rfl
    subst this
    simp [Builtin.append_, run_underlying ht, sizeOf, typeInfo, hi, Builtin.lenOf, Builtin.firstCells, storeCells, loadCells, loadCellsFrom, Result.andThen]
  all_goals simp [Builtin.append_, run_underlying ht, sizeOf, typeInfo, hi, Builtin.lenOf, Builtin.firstCells, storeCells, loadCells, loadCellsFrom, Result.andThen]

theorem small_bytes (n : Nat) (h : n ≤ 4000000) : n * K.bytes ≤ 140737488355328 := by
  have h1 := Nat.mul_le_mul h K.hb
  omega

set_option maxHeartbeats 1000000 in
/-- Append, whatever the row ahead and the row behind. -/
theorem run_append_rows (w : World) (ty : TypeId) (base : Nat) (v : Value) (l : List α) (hD : K.Dst w base v l) (a : Option Addr) (c m : Nat) (k : List α) (hm : m = k.length) (hR : K.RowC w a c k) (hlen : l.length + k.length ≤ 4000000) (hbase : base ≤ w.heap.size) :
    ∃ v' w', (Builtin.append_ #[K.S, K.S] ty #[v, .slice a m c]).run Pr w = .ok v' w' ∧ K.Dst w' base v' (l ++ k) ∧ Below base w w' := by
  obtain ⟨i0, hi, hz0, hz1, hz2⟩ := info_parts K.hi
  have hbb := K.small_bytes (l.length + k.length) hlen
  have hbk := K.small_bytes k.length (by omega)
  obtain ⟨h1, h2, h3, h4⟩ := hR
  subst hm
  by_cases hk : k.length = 0
  · obtain rfl : k = [] := List.length_eq_zero_iff.1 hk
    rw [List.append_nil]
    rcases hD with hD | ⟨rfl, ad, rfl⟩
    · cases a with
      | none =>
        have := h3 rfl
        subst this
        exact ⟨v, w, run_append_owned_none w base K.S ty K.T i0 K.k K.hu hi v _ _ hD, .inl hD, Below.refl _ _⟩
      | some ad =>
        obtain ⟨v', w', r1, r2, r3, _⟩ := run_append_own (P := Pr) (w := w) base K.S ty K.T i0 K.z K.k K.bytes K.hu hi hz0 hz1 hz2 K.hz K.hk0 v _ _ hD ad 0 c [] (by simp) (by intro j u hj; simp at hj) (by intro u hu; cases hu) (by unfold maxLen; omega) (by simpa using hbb) hbase
        exact ⟨v', w', r1, .inl (by simpa using r2), (Below.refl _ w).grown r3 hbase (fun g hg => (hD.lt g hg).1)⟩
    · exact ⟨_, w, run_append_bare ad a c w ty h3, .inr ⟨rfl, ad, rfl⟩, Below.refl _ _⟩
  · obtain ⟨b, o, rfl, hb, hat⟩ := h4 (by omega)
    rcases hD with hD | ⟨rfl, ad, rfl⟩
    · obtain ⟨v', w', r1, r2, r3, _⟩ := run_append_own (P := Pr) (w := w) base K.S ty K.T i0 K.z K.k K.bytes K.hu hi hz0 hz1 hz2 K.hz K.hk0 v _ _ hD ⟨b, o, none⟩ k.length c (K.all k) (K.all_length k) hat.src (K.all_cells k) (by unfold maxLen; omega) hbb hbase
      exact ⟨v', w', r1, .inl (by rw [K.all_append, List.length_append]; exact r2), (Below.refl _ w).grown r3 hbase (fun g hg => (hD.lt g hg).1)⟩
    · rw [List.nil_append]
      cases ad with
      | none =>
        have hD : w.ownsRow base K.T K.k (.slice none 0 0) 0 [] := World.ownsRow_nil _ _ _ _
        obtain ⟨v', w', r1, r2, r3, _⟩ := run_append_own (P := Pr) (w := w) base K.S ty K.T i0 K.z K.k K.bytes K.hu hi hz0 hz1 hz2 K.hz K.hk0 _ _ _ hD ⟨b, o, none⟩ k.length c (K.all k) (K.all_length k) hat.src (K.all_cells k) (by unfold maxLen; omega) (by simpa using hbb) hbase
        exact ⟨v', w', r1, .inl (by simpa using r2), (Below.refl _ w).grown r3 hbase (fun g hg => (hD.lt g hg).1)⟩
      | some ad =>
        obtain ⟨v', w', r1, r2, r3⟩ := run_append_arg_grows (P := Pr) (w := w) K.S ty K.T i0 K.z K.k K.bytes K.hu hi hz0 hz1 hz2 K.hz K.hk0 ad 0 0 [] (by simp) (by intro j u hj; simp at hj) ⟨b, o, none⟩ k.length c (K.all k) (K.all_length k) hat.src (by omega) (by unfold maxLen; omega) (by simpa using hbk)
        have r2 : w'.ownsRow w.heap.size K.T K.k v' k.length (K.all k) := by simpa using r2
        exact ⟨v', w', r1, .inl (r2.mono hbase), (Below.refl _ w).grown r3 hbase (fun g hg => by cases hg)⟩

theorem wpList_append_rows (K : Kind Pr α) {w : World} {ops : Array Oper} {rest : List Oper} {o : Oper} {act : Act} {Q : Exit → Act → World → Prop} (hgd : o.guard = none) (s x : Operand)
    (ho : o.op = .call { callee := .builtin .append, args := #[s, x], argTypes := #[K.S, K.S] })
    (base : Nat) (v : Value) (hs : act.eval s = v) (l : List α) (hD : K.Dst w base v l) (a : Option Addr) (m c : Nat) (hx : act.eval x = .slice a m c) (k : List α) (hm : m = k.length) (hR : K.RowC w a c k) (hlen : l.length + k.length ≤ 4000000) (hbase : base ≤ w.heap.size)
    (h : ∀ a' c' w', K.Dst w' base (.slice a' (l ++ k).length c') (l ++ k) → K.MineC w' base a' c' (l ++ k) → Below base w w' → wpList Pr ops Q rest (act.put o.dst (.slice a' (l ++ k).length c')) w') : wpList Pr ops Q (o :: rest) act w := by
  refine wpList_plain hgd fun K' hK' => ?_
  obtain ⟨v', w', hrun, r1, r2⟩ := run_append_rows w o.type base v l hD a c m k hm hR hlen hbase
  obtain ⟨a', c', rfl, r3⟩ := r1.mine
  unfold Oper.wp
  simp [execOp, ho, resolve, invoke, builtin, hs, hx, hrun, Result.andThen]
  have h4 := h a' c' w' r1 r3 r2
  rw [List.length_append] at h4
  exact hK' _ _ h4

set_option maxHeartbeats 1000000 in
/-- Append, whatever the row ahead and the row behind; the bound in bytes. -/
theorem run_append_rows_b (w : World) (ty : TypeId) (base : Nat) (v : Value) (l : List α) (hD : K.Dst w base v l) (a : Option Addr) (c m : Nat) (k : List α) (hm : m = k.length) (hR : K.RowC w a c k) (hbb : (l.length + k.length) * K.bytes ≤ 140737488355328) (hml : l.length + k.length ≤ maxLen) (hbase : base ≤ w.heap.size) :
    ∃ v' w', (Builtin.append_ #[K.S, K.S] ty #[v, .slice a m c]).run Pr w = .ok v' w' ∧ K.Dst w' base v' (l ++ k) ∧ Below base w w' := by
  obtain ⟨i0, hi, hz0, hz1, hz2⟩ := info_parts K.hi
  have hbk : k.length * K.bytes ≤ 140737488355328 := Nat.le_trans (Nat.mul_le_mul_right _ (Nat.le_add_left _ _)) hbb
  unfold maxLen at hml
  obtain ⟨h1, h2, h3, h4⟩ := hR
  subst hm
  by_cases hk : k.length = 0
  · obtain rfl : k = [] := List.length_eq_zero_iff.1 hk
    rw [List.append_nil]
    rcases hD with hD | ⟨rfl, ad, rfl⟩
    · cases a with
      | none =>
        have := h3 rfl
        subst this
        exact ⟨v, w, run_append_owned_none w base K.S ty K.T i0 K.k K.hu hi v _ _ hD, .inl hD, Below.refl _ _⟩
      | some ad =>
        obtain ⟨v', w', r1, r2, r3, _⟩ := run_append_own (P := Pr) (w := w) base K.S ty K.T i0 K.z K.k K.bytes K.hu hi hz0 hz1 hz2 K.hz K.hk0 v _ _ hD ad 0 c [] (by simp) (by intro j u hj; simp at hj) (by intro u hu; cases hu) (by unfold maxLen; omega) (by simpa using hbb) hbase
        exact ⟨v', w', r1, .inl (by simpa using r2), (Below.refl _ w).grown r3 hbase (fun g hg => (hD.lt g hg).1)⟩
    · exact ⟨_, w, run_append_bare ad a c w ty h3, .inr ⟨rfl, ad, rfl⟩, Below.refl _ _⟩
  · obtain ⟨b, o, rfl, hb, hat⟩ := h4 (by omega)
    rcases hD with hD | ⟨rfl, ad, rfl⟩
    · obtain ⟨v', w', r1, r2, r3, _⟩ := run_append_own (P := Pr) (w := w) base K.S ty K.T i0 K.z K.k K.bytes K.hu hi hz0 hz1 hz2 K.hz K.hk0 v _ _ hD ⟨b, o, none⟩ k.length c (K.all k) (K.all_length k) hat.src (K.all_cells k) (by unfold maxLen; omega) hbb hbase
      exact ⟨v', w', r1, .inl (by rw [K.all_append, List.length_append]; exact r2), (Below.refl _ w).grown r3 hbase (fun g hg => (hD.lt g hg).1)⟩
    · rw [List.nil_append]
      cases ad with
      | none =>
        have hD : w.ownsRow base K.T K.k (.slice none 0 0) 0 [] := World.ownsRow_nil _ _ _ _
        obtain ⟨v', w', r1, r2, r3, _⟩ := run_append_own (P := Pr) (w := w) base K.S ty K.T i0 K.z K.k K.bytes K.hu hi hz0 hz1 hz2 K.hz K.hk0 _ _ _ hD ⟨b, o, none⟩ k.length c (K.all k) (K.all_length k) hat.src (K.all_cells k) (by unfold maxLen; omega) (by simpa using hbb) hbase
        exact ⟨v', w', r1, .inl (by simpa using r2), (Below.refl _ w).grown r3 hbase (fun g hg => (hD.lt g hg).1)⟩
      | some ad =>
        obtain ⟨v', w', r1, r2, r3⟩ := run_append_arg_grows (P := Pr) (w := w) K.S ty K.T i0 K.z K.k K.bytes K.hu hi hz0 hz1 hz2 K.hz K.hk0 ad 0 0 [] (by simp) (by intro j u hj; simp at hj) ⟨b, o, none⟩ k.length c (K.all k) (K.all_length k) hat.src (by omega) (by unfold maxLen; omega) (by simpa using hbk)
        have r2 : w'.ownsRow w.heap.size K.T K.k v' k.length (K.all k) := by simpa using r2
        exact ⟨v', w', r1, .inl (r2.mono hbase), (Below.refl _ w).grown r3 hbase (fun g hg => by cases hg)⟩

theorem wpList_append_rows_b (K : Kind Pr α) {w : World} {ops : Array Oper} {rest : List Oper} {o : Oper} {act : Act} {Q : Exit → Act → World → Prop} (hgd : o.guard = none) (s x : Operand)
    (ho : o.op = .call { callee := .builtin .append, args := #[s, x], argTypes := #[K.S, K.S] })
    (base : Nat) (v : Value) (hs : act.eval s = v) (l : List α) (hD : K.Dst w base v l) (a : Option Addr) (m c : Nat) (hx : act.eval x = .slice a m c) (k : List α) (hm : m = k.length) (hR : K.RowC w a c k) (hbb : (l.length + k.length) * K.bytes ≤ 140737488355328) (hml : l.length + k.length ≤ maxLen) (hbase : base ≤ w.heap.size)
    (h : ∀ a' c' w', K.Dst w' base (.slice a' (l ++ k).length c') (l ++ k) → K.MineC w' base a' c' (l ++ k) → Below base w w' → wpList Pr ops Q rest (act.put o.dst (.slice a' (l ++ k).length c')) w') : wpList Pr ops Q (o :: rest) act w := by
  refine wpList_plain hgd fun K' hK' => ?_
  obtain ⟨v', w', hrun, r1, r2⟩ := run_append_rows_b w o.type base v l hD a c m k hm hR hbb hml hbase
  obtain ⟨a', c', rfl, r3⟩ := r1.mine
  unfold Oper.wp
  simp [execOp, ho, resolve, invoke, builtin, hs, hx, hrun, Result.andThen]
  have h4 := h a' c' w' r1 r3 r2
  rw [List.length_append] at h4
  exact hK' _ _ h4

/-- A row of the call's own that append is handed: it comes back as one; only its own block has changed. -/
def Own (K : Kind Pr α) (w : World) (base : Nat) (v : Value) (l : List α) : Prop := w.ownsRow base K.T K.k v l.length (K.all l)
theorem own_nil (w : World) (base : Nat) : K.Own w base (.slice none 0 0) [] := World.ownsRow_nil _ _ _ _
theorem Own.mine {w : World} {base : Nat} {v : Value} {l : List α} (h : K.Own w base v l) : ∃ a c, v = .slice a l.length c ∧ K.MineC w base a c l := Dst.mine (.inl h)
theorem Own.row {w : World} {base : Nat} {a : Option Addr} {n c : Nat} {l : List α} (h : K.Own w base (.slice a n c) l) : K.RowC w a c l := by
  obtain ⟨a', c', e, hm⟩ := h.mine
  injection e with e1 e2 e3
  subst e1 e3
  exact hm.row
theorem Own.mono {w : World} {base b2 : Nat} {v : Value} {l : List α} (h : K.Own w base v l) (hb : b2 ≤ base) : K.Own w b2 v l := World.ownsRow.mono h hb
theorem Own.below {w w' : World} {base B : Nat} {v : Value} {l : List α} (h : K.Own w base v l) (hb : Below B w w') (hB : w.heap.size ≤ B) : K.Own w' base v l := by
  refine ⟨h.1, ?_⟩
  rcases h.2 with h2 | ⟨g, cap, cur, rfl, b, c, d⟩
  · exact .inl h2
  · exact .inr ⟨g, cap, cur, rfl, b, by rw [hb.block g (Nat.lt_of_lt_of_le (lt_heap' c) hB)]; exact c, d⟩
theorem Own.set {w : World} {base : Nat} {v : Value} {l : List α} (h : K.Own w base v l) {p : Addr} (hp : p.block < base) (x : Value) : K.Own (w.setCell p x) base v l := by
  refine ⟨h.1, ?_⟩
  rcases h.2 with h2 | ⟨g, cap, cur, rfl, b, c, d⟩
  · exact .inl h2
  · exact .inr ⟨g, cap, cur, rfl, b, by rw [Below.heap_setCell _ _ _ g (by omega)]; exact c, d⟩
theorem Own.setNe {w : World} {base : Nat} {v : Value} {l : List α} (h : K.Own w base v l) {p : Addr} (hp : v.ownBlock ≠ some p.block) (x : Value) : K.Own (w.setCell p x) base v l := by
  refine ⟨h.1, ?_⟩
  rcases h.2 with h2 | ⟨g, cap, cur, rfl, b, c, d⟩
  · exact .inl h2
  · exact .inr ⟨g, cap, cur, rfl, b, by rw [Below.heap_setCell _ _ _ g (by intro e; exact hp (by simp [Value.ownBlock, e]))]; exact c, d⟩
theorem Own.draw {w : World} {base : Nat} {v : Value} {l : List α} (h : K.Own w base v l) : K.Own w.drew base v l := h
/-- A block of another type is none of an owned row's. -/
theorem Own.ne {w : World} {base : Nat} {v : Value} {l : List α} (h : K.Own w base v l) {g : Nat} {cs : Array Value} {t : TypeId} {fr : Nat × Nat} (hg : w.heap[g]? = some (.cells cs t fr)) (ht : t ≠ K.T) : v.ownBlock ≠ some g := by
  intro e
  rcases h.2 with ⟨rfl, _⟩ | ⟨g', cap, cur, rfl, _, hg', _⟩
  · simp [Value.ownBlock] at e
  · have e1 : g' = g := by simpa [Value.ownBlock] using e
    subst e1
    rw [hg'] at hg
    injection hg with hg
    injection hg with _ h2 _
    exact ht h2.symm
/-- A row that lies in blocks from base on. -/
def FarC (K : Kind Pr α) (w : World) (base : Nat) (a : Option Addr) (c : Nat) (l : List α) : Prop := K.RowC w a c l ∧ (0 < l.length → ∀ ad, a = some ad → base ≤ ad.block)
theorem FarC.draw {w : World} {base : Nat} {a : Option Addr} {c : Nat} {l : List α} (h : K.FarC w base a c l) : K.FarC w.drew base a c l := h
theorem FarC.row {w : World} {base : Nat} {a : Option Addr} {c : Nat} {l : List α} (h : K.FarC w base a c l) : K.RowC w a c l := h.1
theorem Own.far {w : World} {base : Nat} {a : Option Addr} {n c : Nat} {l : List α} (h : K.Own w base (.slice a n c) l) : K.FarC w base a c l := by
  refine ⟨h.row, fun hl ad e => ?_⟩
  subst e
  obtain ⟨a', c', e, hm⟩ := h.mine
  injection e with e1 e2 e3
  subst e1
  obtain ⟨g, cur, t, e, hb, _⟩ := hm.2.2.2 hl
  injection e with e
  subst e
  exact hb
theorem FarC.below {w w' : World} {base : Nat} {a : Option Addr} {c : Nat} {l : List α} (h : K.FarC w base a c l) (hb : Below w.heap.size w w') : K.FarC w' base a c l := ⟨h.1.below hb, h.2⟩
theorem RowI.set {w : World} {a : Option Addr} {l : List α} (h : K.RowI w a l) {p : Addr} (hp : 0 < l.length → ∀ ad, a = some ad → p.block ≠ ad.block) (x : Value) : K.RowI (w.setCell p x) a l := fun hl => by
  obtain ⟨b, o, rfl, hb, hat⟩ := h hl
  refine ⟨b, o, rfl, by simpa using hb, fun j y hy i v hv => ?_⟩
  exact (World.cell?_setCell_other _ _ _ _ (by intro e; exact hp hl _ rfl (by rw [e]))).trans (hat j y hy i v hv)
theorem FarC.set {w : World} {base : Nat} {a : Option Addr} {c : Nat} {l : List α} (h : K.FarC w base a c l) {p : Addr} (hp : p.block < base) (x : Value) : K.FarC (w.setCell p x) base a c l :=
  ⟨⟨h.1.1, h.1.2.1, h.1.2.2.1, h.1.2.2.2.set (fun hl ad e => by have := h.2 hl ad e; omega) x⟩, h.2⟩
theorem FarC.drop {w : World} {base : Nat} {a a' : Option Addr} {c : Nat} {l : List α} (h : K.FarC w base a c l) (j : Nat) (hj : j ≤ l.length) (ha : a' = if c = j then a else a.map (·.add (j * K.k))) : K.FarC w base a' (c - j) (l.drop j) := by
  refine ⟨h.1.drop j hj ha, fun hl ad e => ?_⟩
  have hl2 : 0 < l.length := by simp at hl; omega
  subst ha
  split at e
  · exact h.2 hl2 ad e
  · obtain ⟨b, o, e2, _⟩ := h.1.2.2.2 hl2
    subst e2
    simp [add_at'] at e
    subst e
    exact h.2 hl2 ⟨b, o, none⟩ rfl
theorem FarC.mono {w : World} {base b2 : Nat} {a : Option Addr} {c : Nat} {l : List α} (h : K.FarC w base a c l) (hb : b2 ≤ base) : K.FarC w b2 a c l := ⟨h.1, fun hl ad e => Nat.le_trans hb (h.2 hl ad e)⟩

set_option maxHeartbeats 1000000 in
theorem run_append_owned (w : World) (ty : TypeId) (base : Nat) (v : Value) (l : List α) (hD : K.Own w base v l) (a : Option Addr) (c m : Nat) (k : List α) (hm : m = k.length) (hR : K.RowC w a c k) (hlen : l.length + k.length ≤ 4000000) (hbase : base ≤ w.heap.size) :
    ∃ v' w', (Builtin.append_ #[K.S, K.S] ty #[v, .slice a m c]).run Pr w = .ok v' w' ∧ K.Own w' base v' (l ++ k) ∧ w.grownBy w' v.ownBlock := by
  obtain ⟨i0, hi, hz0, hz1, hz2⟩ := info_parts K.hi
  have hbb := K.small_bytes (l.length + k.length) hlen
  have hbk := K.small_bytes k.length (by omega)
  obtain ⟨h1, h2, h3, h4⟩ := hR
  subst hm
  by_cases hk : k.length = 0
  · obtain rfl : k = [] := List.length_eq_zero_iff.1 hk
    rw [List.append_nil]
    cases a with
    | none =>
      have := h3 rfl
      subst this
      exact ⟨v, w, run_append_owned_none w base K.S ty K.T i0 K.k K.hu hi v _ _ hD, hD, World.grownBy.refl _ _⟩
    | some ad =>
      obtain ⟨v', w', r1, r2, r3, _⟩ := run_append_own (P := Pr) (w := w) base K.S ty K.T i0 K.z K.k K.bytes K.hu hi hz0 hz1 hz2 K.hz K.hk0 v _ _ hD ad 0 c [] (by simp) (by intro j u hj; simp at hj) (by intro u hu; cases hu) (by unfold maxLen; omega) (by simpa using hbb) hbase
      exact ⟨v', w', r1, by have h := r2; rw [List.append_nil, Nat.add_zero] at h; exact h, r3⟩
  · obtain ⟨b, o, rfl, hb, hat⟩ := h4 (by omega)
    obtain ⟨v', w', r1, r2, r3, _⟩ := run_append_own (P := Pr) (w := w) base K.S ty K.T i0 K.z K.k K.bytes K.hu hi hz0 hz1 hz2 K.hz K.hk0 v _ _ hD ⟨b, o, none⟩ k.length c (K.all k) (K.all_length k) hat.src (K.all_cells k) (by unfold maxLen; omega) hbb hbase
    exact ⟨v', w', r1, by unfold Own; rw [K.all_append, List.length_append]; exact r2, r3⟩

theorem wpList_append_owned (K : Kind Pr α) {w : World} {ops : Array Oper} {rest : List Oper} {o : Oper} {act : Act} {Q : Exit → Act → World → Prop} (hgd : o.guard = none) (s x : Operand)
    (ho : o.op = .call { callee := .builtin .append, args := #[s, x], argTypes := #[K.S, K.S] })
    (base : Nat) (v : Value) (hs : act.eval s = v) (l : List α) (hD : K.Own w base v l) (a : Option Addr) (m c : Nat) (hx : act.eval x = .slice a m c) (k : List α) (hm : m = k.length) (hR : K.RowC w a c k) (hlen : l.length + k.length ≤ 4000000) (hbase : base ≤ w.heap.size)
    (L : List α) (hL : L = l ++ k)
    (h : ∀ a' c' w', K.Own w' base (.slice a' L.length c') L → w.grownBy w' v.ownBlock → wpList Pr ops Q rest (act.put o.dst (.slice a' L.length c')) w') : wpList Pr ops Q (o :: rest) act w := by
  refine wpList_plain hgd fun K' hK' => ?_
  obtain ⟨v', w', hrun, r1, r2⟩ := run_append_owned w o.type base v l hD a c m k hm hR hlen hbase
  rw [← hL] at r1
  obtain ⟨a', c', rfl, r3⟩ := r1.mine
  unfold Oper.wp
  simp [execOp, ho, resolve, invoke, builtin, hs, hx, hrun, Result.andThen]
  exact hK' _ _ (h a' c' w' r1 r2)

/-- At a step of a region that draws its order. -/
theorem step_append_owned (K : Kind Pr α) {w : World} {ops : Array Oper} {o : Oper} {act : Act} {K' : Act → World → Prop} {Q : Exit → Act → World → Prop} {E : Prop} (hgd : o.guard = none) (s x : Operand)
    (ho : o.op = .call { callee := .builtin .append, args := #[s, x], argTypes := #[K.S, K.S] })
    (base : Nat) (v : Value) (hs : act.eval s = v) (l : List α) (hD : K.Own w base v l) (a : Option Addr) (m c : Nat) (hx : act.eval x = .slice a m c) (k : List α) (hm : m = k.length) (hR : K.RowC w a c k) (hlen : l.length + k.length ≤ 4000000) (hbase : base ≤ w.heap.size)
    (L : List α) (hL : L = l ++ k)
    (h : ∀ a' c' w', K.Own w' base (.slice a' L.length c') L → w.grownBy w' v.ownBlock → K' (act.put o.dst (.slice a' L.length c')) w') : if Region.wanted o (yielded ops act.tmps) = true then Oper.wp Pr o act w K' Q else E := by
  have hw : Region.wanted o (yielded ops act.tmps) = true := by simp [Region.wanted, hgd]
  rw [if_pos hw]
  obtain ⟨v', w', hrun, r1, r2⟩ := run_append_owned w o.type base v l hD a c m k hm hR hlen hbase
  rw [← hL] at r1
  obtain ⟨a', c', rfl, r3⟩ := r1.mine
  unfold Oper.wp
  simp [execOp, ho, resolve, invoke, builtin, hs, hx, hrun, Result.andThen]
  exact h a' c' w' r1 r2
end
end Kind
end Go.Proofs.Ytpncgcaepdkcnaa
