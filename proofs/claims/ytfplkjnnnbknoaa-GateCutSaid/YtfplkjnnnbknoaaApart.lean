/- A duct's letters in memory of their own; may a duct be; its room; whether it is ready. -/
import Derived.Test.YtfplkjnnnbknoaaPure
set_option linter.unusedSimpArgs false
set_option linter.unusedVariables false
namespace Go.Proofs.Ytfplkjnnnbknoaa
open Go.RowKit Go.Proofs.Ytfplkjnnnbknoaa.Kind

/-- A block of three cells. -/
theorem box3 {w : World} {g : Nat} {x y z : Value} {t : TypeId} (h : w.heap[g]? = some (.cells #[x, y, z] t (0, 0))) :
    (w.cell? ⟨g, 0, none⟩ = some x ∧ w.cell? ⟨g, 1, none⟩ = some y ∧ w.cell? ⟨g, 2, none⟩ = some z) ∧ (w.frozen? ⟨g, 0, none⟩ = false ∧ w.frozen? ⟨g, 1, none⟩ = false ∧ w.frozen? ⟨g, 2, none⟩ = false) := by
  simp [World.cell?, World.frozen?, h]

theorem loadVar_duct {w : World} {b : Nat} {x : Value} {a : Option Addr} {n c : Nat} {y : Bool} (h0 : w.cell? ⟨b, 0, none⟩ = some x) (h1 : w.cell? ⟨b, 1, none⟩ = some (.slice a n c)) (h2 : w.cell? ⟨b, 2, none⟩ = some (.bool y)) :
    (loadVar 24 ⟨b, 0, none⟩).run Try.prog w = .ok (.agg #[x, .slice a n c, .bool y]) w := by
  have a3 := Try.isAgg24
  have z3 := Try.sizeOf24
  simp [loadVar, go_sem, *]
theorem res_cell {fn : Func} {p : Tmp} {ty : TypeId} (h : fn.results = #[.cell p ty]) (tmps : Array Value) (Pr : Program) (w : World) (b : Nat) (hp : tmps.getD p undef = .pointer (some ⟨b, 0, none⟩)) (v : Value) (hl : (loadVar ty ⟨b, 0, none⟩).run Pr w = .ok v w) :
    (results fn tmps).run Pr w = .ok v w := by
  simp only [results, h]
  simp [Sem.run_bind, Result.andThen]
  simp at hp
  rw [hp, show (asAddr (.pointer (some ⟨b, 0, none⟩))).run Pr w = .ok ⟨b, 0, none⟩ w from rfl]
  simp only [Result.andThen_ok, hl]
theorem res_cell_tmp {fn : Func} {p u : Tmp} {ty : TypeId} (h : fn.results = #[.cell p ty, .tmp u]) (tmps : Array Value) (Pr : Program) (w : World) (b : Nat) (hp : tmps.getD p undef = .pointer (some ⟨b, 0, none⟩)) (v : Value) (hl : (loadVar ty ⟨b, 0, none⟩).run Pr w = .ok v w) :
    (results fn tmps).run Pr w = .ok (.tuple #[v, tmps.getD u undef]) w := by
  rw [results_cell_tmp h, hp, show (asAddr (.pointer (some ⟨b, 0, none⟩))).run Pr w = .ok ⟨b, 0, none⟩ w from rfl]
  simp only [Result.andThen_ok, hl]
/-- A variable's block; a store into it; a store elsewhere. -/
theorem set_at {w : World} {b : Nat} {cs : Array Value} {t : TypeId} (h : w.heap[b]? = some (.cells cs t (0, 0))) (i : Nat) (x : Value) : (w.setCell ⟨b, i, none⟩ x).heap[b]? = some (.cells (cs.setIfInBounds i x) t (0, 0)) := by
  have hlt := lt_of_block h
  have h' : w.heap[b] = .cells cs t (0, 0) := by simpa [Array.getElem?_eq_getElem hlt] using h
  show (w.heap.modify b _)[b]? = _
  rw [Array.getElem?_eq_getElem (by simpa using hlt), Array.getElem_modify_self, h']
  rfl
/-- Three stores into a variable of three cells. -/
def set3 (w : World) (b : Nat) (x y z : Value) : World := ((w.setCell ⟨b, 0, none⟩ x).setCell ⟨b, 1, none⟩ y).setCell ⟨b, 2, none⟩ z
theorem set3_at {w : World} {b : Nat} {x0 y0 z0 : Value} {t : TypeId} (h : w.heap[b]? = some (.cells #[x0, y0, z0] t (0, 0))) (x y z : Value) : (set3 w b x y z).heap[b]? = some (.cells #[x, y, z] t (0, 0)) :=
  set_at (set_at (set_at h 0 x) 1 y) 2 z
theorem set3_other (w : World) (b g : Nat) (x y z : Value) (h : g ≠ b) : (set3 w b x y z).heap[g]? = w.heap[g]? := by
  unfold set3
  repeat rw [Below.heap_setCell _ _ _ g h]
theorem set3_below {w0 w : World} {n b : Nat} (h : Below n w0 w) (hn : n ≤ b) (x y z : Value) : Below n w0 (set3 w b x y z) := ((h.setCell (p := ⟨b, 0, none⟩) hn _).setCell (p := ⟨b, 1, none⟩) hn _).setCell (p := ⟨b, 2, none⟩) hn _
theorem set3_size (w : World) (b : Nat) (x y z : Value) : (set3 w b x y z).heap.size = w.heap.size := by simp [set3]
theorem set3_own {α : Type} {K : Kind Try.prog α} {w : World} {base b : Nat} {v : Value} {l : List α} (h : K.Own w base v l) (hb : b < base) (x y z : Value) : K.Own (set3 w b x y z) base v l := ((h.set (p := ⟨b, 0, none⟩) hb _).set (p := ⟨b, 1, none⟩) hb _).set (p := ⟨b, 2, none⟩) hb _
theorem load3 {w : World} {b : Nat} {x : Value} {a : Option Addr} {n c : Nat} {y : Bool} {t : TypeId} (h : w.heap[b]? = some (.cells #[x, .slice a n c, .bool y] t (0, 0))) :
    (loadVar 24 ⟨b, 0, none⟩).run Try.prog w = .ok (.agg #[x, .slice a n c, .bool y]) w := loadVar_duct (box3 h).1.1 (box3 h).1.2.1 (box3 h).1.2.2
/-- Two blocks just laid. -/
theorem laid2 (w : World) (o p : Obj) : ((w.alloc o).alloc p).heap[w.heap.size]? = some o ∧ ((w.alloc o).alloc p).heap[w.heap.size + 1]? = some p := by
  constructor
  · exact (Below.heap_alloc _ _ _ (by simp)).trans (heap_alloc_new w o)
  · simpa using heap_alloc_new (w.alloc o) p

set_option maxHeartbeats 4000000 in
set_option maxRecDepth 1000000 in
theorem apart_any (cap : Int) (l : List Lt) (cl : Bool) (a : Option Addr) (c : Nat) (w : World) (hl : l.length ≤ 100000) (hA : LK.RowC w a c l) :
    Calls Try.prog 36 #[.agg #[.int .i64 cap, .slice a l.length c, .bool cl]] w fun e w' => ∃ a' c', e = .returned (.agg #[.int .i64 cap, .slice a' l.length c', .bool cl]) ∧ LK.Own w' (w.heap.size + 2) (.slice a' l.length c') l ∧ Below w.heap.size w w' := by
  have HA := Lib.hid hA
  clear hA
  go_enter Try.func36, Try.ntmps36
  go_wp2_with (at_builtin; refine LK.wpList_append_owned rfl _ _ rfl (w.heap.size + 2) (.slice none 0 0) rfl [] (own_nil _ _) a l.length c rfl l rfl (HA.out.below (((Below.refl _ _).alloc (Nat.le_refl _) _).alloc (by simp) _)) (by simp; omega) (by simp) l rfl ?_; intro a1 c1 w1 hO hG; have hs := hG.size; have hb1 := (hG.block w.heap.size (by simp; try omega) (by simp [Value.ownBlock])).trans (laid2 w _ _).1; have hb2 := (hG.block (w.heap.size + 1) (by simp) (by simp [Value.ownBlock])).trans (laid2 w _ _).2; have HB := Lib.hid ((((Below.refl w.heap.size w).alloc (Nat.le_refl _) _).alloc (by simp) _).grown hG (by simp; try omega) (fun j hj => by cases hj)); have HO := Lib.hid hO; have HQ := Lib.hid hb2; obtain ⟨⟨p0, p1, p2⟩, p3, p4, p5⟩ := box3 hb1;  obtain ⟨⟨q0, q1, q2⟩, q3, q4, q5⟩ := box3 hb2; clear hO hG hs hb1 hb2)
  change bodyPost _ _ _ _ _ (set3 (w1.setCell ⟨w.heap.size, 1, none⟩ (.slice a1 l.length c1)) (w.heap.size + 1) (.int .i64 cap) (.slice a1 l.length c1) (.bool cl))
  refine bodyPost_ret (res_cell rfl _ _ _ (w.heap.size + 1) rfl _ (load3 (set3_at ((Below.heap_setCell _ _ _ _ (by simp)).trans HQ.out) _ _ _))) rfl ?_
  exact ⟨a1, c1, rfl, set3_own (HO.out.set (by simp) _) (by omega) _ _ _, set3_below (HB.out.setCell (by simp) _) (by omega) _ _ _⟩
end Go.Proofs.Ytfplkjnnnbknoaa
