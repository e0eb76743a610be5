/- Variables as blocks of some cells; results through cells. Nothing here knows the program. -/
import Derived.Test.YtciohjgcndgiaaaGreatDoorPure
import Derived.Test.YtciohjgcndgiaaaGreatDoorKit
import Derived.Deep.RegionHeld3
import Derived.Deep.RegionLaw
import Derived.Deep.DeepCutAuto
import Derived.BigRegion
set_option linter.unusedSimpArgs false
set_option linter.unusedVariables false
namespace Go.Proofs.YtciohjgcndgiaaaGreatDoor
open Go.RowKit Go.Proofs.YtciohjgcndgiaaaGreatDoor.Kind

theorem cell1 {w : World} {g : Nat} {x : Value} {t : TypeId} (h : w.heap[g]? = some (.cells #[x] t (0, 0))) : w.cell? ⟨g, 0, none⟩ = some x ∧ w.frozen? ⟨g, 0, none⟩ = false := by
  simp [World.cell?, World.frozen?, h]
theorem box3 {w : World} {g : Nat} {x y z : Value} {t : TypeId} (h : w.heap[g]? = some (.cells #[x, y, z] t (0, 0))) :
    (w.cell? ⟨g, 0, none⟩ = some x ∧ w.cell? ⟨g, 1, none⟩ = some y ∧ w.cell? ⟨g, 2, none⟩ = some z) ∧ (w.frozen? ⟨g, 0, none⟩ = false ∧ w.frozen? ⟨g, 1, none⟩ = false ∧ w.frozen? ⟨g, 2, none⟩ = false) := by
  simp [World.cell?, World.frozen?, h]
theorem box4 {w : World} {g : Nat} {x y z u : Value} {t : TypeId} (h : w.heap[g]? = some (.cells #[x, y, z, u] t (0, 0))) :
    (w.cell? ⟨g, 0, none⟩ = some x ∧ w.cell? ⟨g, 1, none⟩ = some y ∧ w.cell? ⟨g, 2, none⟩ = some z ∧ w.cell? ⟨g, 3, none⟩ = some u) ∧ (w.frozen? ⟨g, 0, none⟩ = false ∧ w.frozen? ⟨g, 1, none⟩ = false ∧ w.frozen? ⟨g, 2, none⟩ = false ∧ w.frozen? ⟨g, 3, none⟩ = false) := by
  simp [World.cell?, World.frozen?, h]
theorem box6 {w : World} {g : Nat} {x0 x1 x2 x3 x4 x5 : Value} {t : TypeId} (h : w.heap[g]? = some (.cells #[x0, x1, x2, x3, x4, x5] t (0, 0))) :
    (w.cell? ⟨g, 0, none⟩ = some x0 ∧ w.cell? ⟨g, 1, none⟩ = some x1 ∧ w.cell? ⟨g, 2, none⟩ = some x2 ∧ w.cell? ⟨g, 3, none⟩ = some x3 ∧ w.cell? ⟨g, 4, none⟩ = some x4 ∧ w.cell? ⟨g, 5, none⟩ = some x5) ∧
    (w.frozen? ⟨g, 0, none⟩ = false ∧ w.frozen? ⟨g, 1, none⟩ = false ∧ w.frozen? ⟨g, 2, none⟩ = false ∧ w.frozen? ⟨g, 3, none⟩ = false ∧ w.frozen? ⟨g, 4, none⟩ = false ∧ w.frozen? ⟨g, 5, none⟩ = false) := by
  simp [World.cell?, World.frozen?, h]
theorem box9 {w : World} {g : Nat} {x0 x1 x2 x3 x4 x5 x6 x7 x8 : Value} {t : TypeId} (h : w.heap[g]? = some (.cells #[x0, x1, x2, x3, x4, x5, x6, x7, x8] t (0, 0))) :
    w.cell? ⟨g, 0, none⟩ = some x0 ∧ w.cell? ⟨g, 1, none⟩ = some x1 ∧ w.cell? ⟨g, 2, none⟩ = some x2 ∧ w.cell? ⟨g, 3, none⟩ = some x3 ∧ w.cell? ⟨g, 4, none⟩ = some x4 ∧ w.cell? ⟨g, 5, none⟩ = some x5 ∧ w.cell? ⟨g, 6, none⟩ = some x6 ∧ w.cell? ⟨g, 7, none⟩ = some x7 ∧ w.cell? ⟨g, 8, none⟩ = some x8 := by
  simp [World.cell?, h]
theorem laid1 (w : World) (o : Obj) : (w.alloc o).heap[w.heap.size]? = some o := heap_alloc_new w o
theorem laid2 (w : World) (o p : Obj) : ((w.alloc o).alloc p).heap[w.heap.size]? = some o ∧ ((w.alloc o).alloc p).heap[w.heap.size + 1]? = some p := by
  constructor
  · exact (Below.heap_alloc _ _ _ (by simp)).trans (heap_alloc_new w o)
  · simpa using heap_alloc_new (w.alloc o) p
theorem laid3 (w : World) (o p q : Obj) : (((w.alloc o).alloc p).alloc q).heap[w.heap.size]? = some o ∧ (((w.alloc o).alloc p).alloc q).heap[w.heap.size + 1]? = some p ∧ (((w.alloc o).alloc p).alloc q).heap[w.heap.size + 2]? = some q := by
  refine ⟨(Below.heap_alloc _ _ _ (by simp; try omega)).trans (laid2 w o p).1, (Below.heap_alloc _ _ _ (by simp; try omega)).trans (laid2 w o p).2, ?_⟩
  simpa using heap_alloc_new ((w.alloc o).alloc p) q
theorem laidA (W : World) (X : Obj) : (W.alloc X).drew.heap[W.heap.size]? = some X := laid1 W X
theorem laidB1 (W : World) (X Y : Obj) : ((W.alloc X).alloc Y).drew.heap[W.heap.size]? = some X := (laid2 W X Y).1
theorem laidB2 (W : World) (X Y : Obj) : ((W.alloc X).alloc Y).drew.heap[W.heap.size + 1]? = some Y := (laid2 W X Y).2
theorem below1 (w : World) (o : Obj) : Below w.heap.size w (w.alloc o) := (Below.refl _ w).alloc (Nat.le_refl _) _
theorem below2 (w : World) (o p : Obj) : Below w.heap.size w ((w.alloc o).alloc p) := (below1 w o).alloc (by simp) _
theorem below3 (w : World) (o p q : Obj) : Below w.heap.size w (((w.alloc o).alloc p).alloc q) := (below2 w o p).alloc (by simp; try omega) _
/-- What is kept in a region: alloc, a call. -/
theorem kept_alloc {A : Prop} {W0 W : World} (h : A ∧ Below W0.heap.size W0 W) (X : Obj) : Below W0.heap.size W0 (W.alloc X) := h.2.alloc h.2.size X
theorem kept_call {A : Prop} {W0 W w1 : World} (h : A ∧ Below W0.heap.size W0 W) (hb : Below W.heap.size W w1) : Below W0.heap.size W0 w1 := h.2.trans (hb.mono h.2.size)
theorem res_cell {fn : Func} {p : Tmp} {ty : TypeId} (h : fn.results = #[.cell p ty]) (tmps : Array Value) (Pr : Program) (w : World) (b : Nat) (hp : tmps.getD p undef = .pointer (some ⟨b, 0, none⟩)) (v : Value) (hl : (loadVar ty ⟨b, 0, none⟩).run Pr w = .ok v w) :
    (results fn tmps).run Pr w = .ok v w := by
  simp only [results, h]
  simp [Sem.run_bind, Result.andThen]
  simp at hp
  rw [hp, show (asAddr (.pointer (some ⟨b, 0, none⟩))).run Pr w = .ok ⟨b, 0, none⟩ w from rfl]
  simp only [Result.andThen_ok, hl]
theorem res_cell_tmp {fn : Func} {p u : Tmp} {ty : TypeId} (h : fn.results = #[.cell p ty, .tmp u]) (tmps : Array Value) (Pr : Program) (w : World) (b : Nat) (hp : tmps.getD p undef = .pointer (some ⟨b, 0, none⟩)) (v : Value) (hl : (loadVar ty ⟨b, 0, none⟩).run Pr w = .ok v w) :
    (results fn tmps).run Pr w = .ok (.tuple #[v, tmps.getD u undef]) w := by
  rw [results_cell_tmp h, hp, show (asAddr (.pointer (some ⟨b, 0, none⟩))).run Pr w = .ok ⟨b, 0, none⟩ w from rfl]
  simp only [Result.andThen_ok, hl]
theorem set_at {w : World} {b : Nat} {cs : Array Value} {t : TypeId} (h : w.heap[b]? = some (.cells cs t (0, 0))) (i : Nat) (x : Value) : (w.setCell ⟨b, i, none⟩ x).heap[b]? = some (.cells (cs.setIfInBounds i x) t (0, 0)) := by
  have hlt := lt_of_block h
  have h' : w.heap[b] = .cells cs t (0, 0) := by simpa [Array.getElem?_eq_getElem hlt] using h
  show (w.heap.modify b _)[b]? = _
  rw [Array.getElem?_eq_getElem (by simpa using hlt), Array.getElem_modify_self, h']
  rfl
theorem row_bare {α : Type} {K : Kind Tryz.prog α} {w w' : World} {a : Option Addr} {c : Nat} (h : K.RowC w a c []) : K.RowC w' a c [] := ⟨h.1, h.2.1, h.2.2.1, fun h => by simp at h⟩
theorem drop_at {α : Type} (l : List α) (k : Nat) (x : α) (h : l[k]? = some x) : l.drop k = x :: l.drop (k + 1) := by
  obtain ⟨h1, h2⟩ := List.getElem?_eq_some_iff.1 h
  rw [List.drop_eq_getElem_cons h1, h2]
theorem guard_ad (op : BinOp) (x y : Operand) (xs ys : Array Value) (w : World) : (eqGuard op 59 x y (.agg xs) (.agg ys)).run Tryz.prog w = .ok () w := run_eqGuard_agg w op _ x y xs ys (by kernel_rfl)
theorem neq_self_ad (x : Ad) (W : World) : (binOp .neq 59 (.agg #[.int .i8 x.f, .int .u16 x.g0, .int .u16 x.g1, .int .u16 x.g2, .int .u16 x.g3, .int .u16 x.g4, .int .u16 x.g5, .int .u16 x.g6, .int .u16 x.g7, .int .i64 x.p]) (.agg #[.int .i8 x.f, .int .u16 x.g0, .int .u16 x.g1, .int .u16 x.g2, .int .u16 x.g3, .int .u16 x.g4, .int .u16 x.g5, .int .u16 x.g6, .int .u16 x.g7, .int .i64 x.p])).run Tryz.prog W = .ok (.bool false) W := by
  have h := equalIn_addr 9997 W x x
  simp only [Go.Proofs.YtciohjgcndgiaaaGreatDoor.Ad.v] at h
  rw [run_neq_struct, h]
  simp
theorem eql_self_ad (x : Ad) (W : World) : (binOp .eql 59 (.agg #[.int .i8 x.f, .int .u16 x.g0, .int .u16 x.g1, .int .u16 x.g2, .int .u16 x.g3, .int .u16 x.g4, .int .u16 x.g5, .int .u16 x.g6, .int .u16 x.g7, .int .i64 x.p]) (.agg #[.int .i8 x.f, .int .u16 x.g0, .int .u16 x.g1, .int .u16 x.g2, .int .u16 x.g3, .int .u16 x.g4, .int .u16 x.g5, .int .u16 x.g6, .int .u16 x.g7, .int .i64 x.p])).run Tryz.prog W = .ok (.bool true) W := by
  have h := equalIn_addr 9997 W x x
  simp only [Go.Proofs.YtciohjgcndgiaaaGreatDoor.Ad.v] at h
  rw [run_eql_struct, h]
  simp
theorem kept_self {A : Prop} {W0 W : World} (h : A ∧ Below W0.heap.size W0 W) : Below W0.heap.size W0 W := h.2
theorem box10 {w : World} {g : Nat} {x : Ad} {t : TypeId} (h : w.heap[g]? = some (.cells #[.int .i8 x.f, .int .u16 x.g0, .int .u16 x.g1, .int .u16 x.g2, .int .u16 x.g3, .int .u16 x.g4, .int .u16 x.g5, .int .u16 x.g6, .int .u16 x.g7, .int .i64 x.p] t (0, 0))) :
    (w.cell? ⟨g, 0, none⟩ = some (.int .i8 x.f) ∧ w.cell? ⟨g, 1, none⟩ = some (.int .u16 x.g0) ∧ w.cell? ⟨g, 2, none⟩ = some (.int .u16 x.g1) ∧ w.cell? ⟨g, 3, none⟩ = some (.int .u16 x.g2) ∧ w.cell? ⟨g, 4, none⟩ = some (.int .u16 x.g3)) ∧
    (w.cell? ⟨g, 5, none⟩ = some (.int .u16 x.g4) ∧ w.cell? ⟨g, 6, none⟩ = some (.int .u16 x.g5) ∧ w.cell? ⟨g, 7, none⟩ = some (.int .u16 x.g6) ∧ w.cell? ⟨g, 8, none⟩ = some (.int .u16 x.g7) ∧ w.cell? ⟨g, 9, none⟩ = some (.int .i64 x.p)) := by
  simp [World.cell?, h]

theorem load10 {w : World} {b : Nat} {x : Ad} {t : TypeId} (h : w.heap[b]? = some (.cells #[.int .i8 x.f, .int .u16 x.g0, .int .u16 x.g1, .int .u16 x.g2, .int .u16 x.g3, .int .u16 x.g4, .int .u16 x.g5, .int .u16 x.g6, .int .u16 x.g7, .int .i64 x.p] t (0, 0))) :
    (loadVar 59 ⟨b, 0, none⟩).run Tryz.prog w = .ok (.agg #[.int .i8 x.f, .int .u16 x.g0, .int .u16 x.g1, .int .u16 x.g2, .int .u16 x.g3, .int .u16 x.g4, .int .u16 x.g5, .int .u16 x.g6, .int .u16 x.g7, .int .i64 x.p]) w := by
  obtain ⟨⟨h0, h1, h2, h3, h4⟩, h5, h6, h7, h8, h9⟩ := box10 h
  have a3 := Tryz.isAgg59
  have z3 := Tryz.sizeOf59
  have a4 := Tryz.isAgg57
  have z4 := Tryz.sizeOf57
  clear h
  simp [loadVar, go_sem, *]
end Go.Proofs.YtciohjgcndgiaaaGreatDoor

set_option linter.unusedSimpArgs false
set_option linter.unusedVariables false
namespace Go.Proofs.YtciohjgcndgiaaaGreatDoor
open Go.RowKit Go.Proofs.YtciohjgcndgiaaaGreatDoor.Kind
namespace Kind
variable {α : Type} {Pr : Program} {K : Kind Pr α}
theorem slot_ne {j k n i i' : Nat} (hi : i < n) (hi' : i' < n) (h : j ≠ k) : j * n + i' ≠ k * n + i := by
  rcases Nat.lt_or_gt_of_ne h with h | h
  · have := Nat.mul_le_mul_right n (show j + 1 ≤ k from h)
    rw [Nat.add_mul] at this
    omega
  · have := Nat.mul_le_mul_right n (show k + 1 ≤ j from h)
    rw [Nat.add_mul] at this
    omega
theorem MineC.poke {w : World} {base : Nat} {a : Option Addr} {c : Nat} {l : List α} (h : K.MineC w base a c l) {k i : Nat} {x y : α} {v : Value} (hx : l[k]? = some x) (hi : i < K.k) (hy : K.enc y = (K.enc x).set i v) :
    ∃ g, a = some ⟨g, 0, none⟩ ∧ base ≤ g ∧ K.RowC (w.setCell ⟨g, k * K.k + i, none⟩ v) a c (l.set k y) ∧ w.cell? ⟨g, k * K.k + i, none⟩ = (K.enc x)[i]? ∧ w.frozen? ⟨g, k * K.k + i, none⟩ = false := by
  have hrow := h.row
  have hk : k < l.length := (List.getElem?_eq_some_iff.1 hx).1
  obtain ⟨g, cur, t, rfl, hb, hh, hs, ht⟩ := h.2.2.2 (by omega)
  obtain ⟨b, o, e, hlt, hat⟩ := hrow.2.2.2 (by omega)
  injection e with e
  injection e with e1 e2 e3
  subst e1 e2
  have hin : k * K.k + i < cur.size := by
    have := Nat.mul_le_mul_right K.k (show k + 1 ≤ l.length from hk)
    rw [Nat.add_mul] at this
    omega
  have hh' := set_at hh (k * K.k + i) v
  have hc : ∀ z, (w.setCell ⟨g, k * K.k + i, none⟩ v).cell? ⟨g, z, none⟩ = if z = k * K.k + i then some v else w.cell? ⟨g, z, none⟩ := by
    intro z
    simp only [World.cell?, hh, hh']
    by_cases hz : z = k * K.k + i
    · subst hz
      simp [hin]
    · rw [if_neg hz]
      simp [Array.getElem?_setIfInBounds, Ne.symm hz]
  refine ⟨g, rfl, hb, ⟨by simpa using hrow.1, hrow.2.1, hrow.2.2.1, fun _ => ⟨g, 0, rfl, by simpa using hlt, ?_⟩⟩, ?_, by simp [World.frozen?, hh]⟩
  · intro j z hz i' u hu
    rw [Nat.zero_add]
    have hi' : i' < K.k := by have := (List.getElem?_eq_some_iff.1 hu).1; rwa [K.hk] at this
    rw [hc]
    rw [List.getElem?_set] at hz
    by_cases hjk : k = j
    · subst hjk
      rw [if_pos rfl, if_pos hk] at hz
      simp at hz
      subst hz
      rw [hy, List.getElem?_set] at hu
      by_cases hii : i = i'
      · subst hii
        rw [if_pos rfl, K.hk, if_pos hi] at hu
        rw [if_pos rfl]
        exact hu
      · rw [if_neg hii] at hu
        rw [if_neg (by omega)]
        have := hat k x hx i' u hu
        rwa [Nat.zero_add] at this
    · rw [if_neg hjk] at hz
      rw [if_neg (slot_ne hi hi' (fun e => hjk e.symm))]
      have := hat j z hz i' u hu
      rwa [Nat.zero_add] at this
  · obtain ⟨u, hu⟩ : ∃ u, (K.enc x)[i]? = some u := ⟨_, List.getElem?_eq_getElem (by rw [K.hk]; exact hi)⟩
    have := hat k x hx i u hu
    rw [Nat.zero_add] at this
    rw [this, hu]
end Kind
end Go.Proofs.YtciohjgcndgiaaaGreatDoor

