/- A duct as a gate, apart from what was handed in; how many may enter, how many are inside. -/
import Derived.Test.YtfplkjnnnbknoaaMay
import Derived.Test.YtfplkjnnnbknoaaLoose
import Derived.Deep.RegionHeld3
import Derived.Deep.RegionLaw
import Derived.BigRegion
set_option linter.unusedSimpArgs false
set_option linter.unusedVariables false
namespace Go.Proofs.Ytfplkjnnnbknoaa
open Go.RowKit Go.Proofs.Ytfplkjnnnbknoaa.Kind

theorem laid1 (w : World) (o : Obj) : (w.alloc o).heap[w.heap.size]? = some o := heap_alloc_new w o
theorem below1 (w : World) (o : Obj) : Below w.heap.size w (w.alloc o) := (Below.refl _ w).alloc (Nat.le_refl _) _
theorem below2 (w : World) (o p : Obj) : Below w.heap.size w ((w.alloc o).alloc p) := (below1 w o).alloc (by simp) _
theorem laid3 (w : World) (o p q : Obj) : (((w.alloc o).alloc p).alloc q).heap[w.heap.size]? = some o ∧ (((w.alloc o).alloc p).alloc q).heap[w.heap.size + 1]? = some p ∧ (((w.alloc o).alloc p).alloc q).heap[w.heap.size + 2]? = some q := by
  refine ⟨(Below.heap_alloc _ _ _ (by simp; try omega)).trans (laid2 w o p).1, (Below.heap_alloc _ _ _ (by simp; try omega)).trans (laid2 w o p).2, ?_⟩
  simpa using heap_alloc_new ((w.alloc o).alloc p) q
theorem below3 (w : World) (o p q : Obj) : Below w.heap.size w (((w.alloc o).alloc p).alloc q) := (below2 w o p).alloc (by simp; try omega) _
theorem cell1 {w : World} {g : Nat} {x : Value} {t : TypeId} (h : w.heap[g]? = some (.cells #[x] t (0, 0))) : w.cell? ⟨g, 0, none⟩ = some x ∧ w.frozen? ⟨g, 0, none⟩ = false := by
  simp [World.cell?, World.frozen?, h]
theorem loadVar_gate {w : World} {b : Nat} {x : Value} {a : Option Addr} {n c : Nat} {y : Bool} (h0 : w.cell? ⟨b, 0, none⟩ = some x) (h1 : w.cell? ⟨b, 1, none⟩ = some (.slice a n c)) (h2 : w.cell? ⟨b, 2, none⟩ = some (.bool y)) :
    (loadVar 47 ⟨b, 0, none⟩).run Try.prog w = .ok (.agg #[x, .slice a n c, .bool y]) w := by
  have a3 := Try.isAgg47
  have z3 := Try.sizeOf47
  simp [loadVar, go_sem, *]
theorem rowC_draw {α : Type} {K : Kind Try.prog α} {w : World} {a : Option Addr} {c : Nat} {l : List α} (h : K.RowC w a c l) : K.RowC w.drew a c l := h

set_option maxHeartbeats 4000000 in
set_option maxRecDepth 1000000 in
theorem at_any (cap : Int) (l : List Lt) (cl : Bool) (a : Option Addr) (c : Nat) (w : World) (hl : l.length ≤ 100000) (hA : LK.RowC w a c l) :
    Calls Try.prog 27 #[.agg #[.int .i64 cap, .slice a l.length c, .bool cl]] w fun e w' => ∃ g a' c', e = .returned (.pointer (some ⟨g, 0, none⟩)) ∧ w.heap.size + 1 ≤ g ∧ w'.heap[g]? = some (.cells #[.int .i64 cap, .slice a' l.length c', .bool cl] 47 (0, 0)) ∧ LK.Own w' (w.heap.size + 1) (.slice a' l.length c') l ∧ Below w.heap.size w w' := by
  have HA := Lib.hid hA
  clear hA
  go_enter Try.func27, Try.ntmps27
  go_wp2_with (at_builtin; refine LK.wpList_append_owned rfl _ _ rfl (w.heap.size + 1) (.slice none 0 0) rfl [] (own_nil _ _) a l.length c rfl l rfl (HA.out.below (below1 w _)) (by simp; omega) (by simp) l rfl ?_; intro a1 c1 w1 hO hG; have hs := hG.size; have hb1 := (hG.block w.heap.size (by simp; try omega) (by simp [Value.ownBlock])).trans (laid1 w _); have HB := Lib.hid ((below1 w _).grown hG (by simp; try omega) (fun j hj => by cases hj)); have HO := Lib.hid hO; have HQ := Lib.hid hb1; obtain ⟨⟨p0, p1, p2⟩, p3, p4, p5⟩ := box3 hb1; clear hO hG hb1)
  go_ret
  have hs : w.heap.size + 1 ≤ w1.heap.size := by simpa using hs
  exact ⟨w1.heap.size, a1, c1, by simp, by omega, by have h := laid1 (w1.setCell ⟨w.heap.size, 1, none⟩ (.slice a1 l.length c1)) (.cells #[.int .i64 cap, .slice a1 l.length c1, .bool cl] 47); simpa using h, ((HO.out.set (p := ⟨w.heap.size, 1, none⟩) (by simp) _).below (below1 _ _) (Nat.le_refl _)), (HB.out.setCell (by simp) _).alloc (by simp; omega) _⟩

set_option maxHeartbeats 4000000 in
set_option maxRecDepth 1000000 in
theorem mfree_any (cap : Int) (a : Option Addr) (n c : Nat) (cl : Bool) (w : World) (hc : cap ≤ 9223372036854775807) :
    Calls Try.prog 32 #[.agg #[.int .i64 cap, .slice a n c, .bool cl]] w fun e w' => e = .returned (.int .i64 (roomB cap n cl)) ∧ w' = (w.alloc (.cells #[.int .i64 cap, .slice a n c, .bool cl] 47)).alloc (.cells #[.int .i64 cap, .slice a n c, .bool cl] 24) := by
  have HR := Lib.hid (room_any cap a n c cl (w.alloc (.cells #[.int .i64 cap, .slice a n c, .bool cl] 47)) hc)
  go_enter Try.func32, Try.ntmps32
  go_wp2_with fail
  with_reducible refine HR.out.mono ?_
  rintro e w1 ⟨rfl, rfl⟩
  go_wp2_with fail
  go_ret
  exact ⟨rfl, rfl⟩

set_option maxHeartbeats 4000000 in
set_option maxRecDepth 1000000 in
theorem minside_any (cap : Int) (a : Option Addr) (n c : Nat) (cl : Bool) (w : World) :
    Calls Try.prog 34 #[.agg #[.int .i64 cap, .slice a n c, .bool cl]] w fun e w' => e = .returned (.int .i64 n) ∧ w' = w.alloc (.cells #[.int .i64 cap, .slice a n c, .bool cl] 47) := by
  go_enter Try.func34, Try.ntmps34
  go_wp2_with fail
  go_ret
  exact ⟨rfl, rfl⟩

set_option maxHeartbeats 4000000 in
set_option maxRecDepth 1000000 in
theorem free_any (cap : Int) (a : Option Addr) (n c : Nat) (cl : Bool) (w : World) (hc : cap ≤ 9223372036854775807) :
    Calls Try.prog 23 #[.agg #[.int .i64 cap, .slice a n c, .bool cl]] w fun e w' => e = .returned (.int .i64 (roomB cap n cl)) ∧ Below w.heap.size w w' := by
  have HR := Lib.hid (mfree_any cap a n c cl (w.alloc (.cells #[.int .i64 cap, .slice a n c, .bool cl] 24)) hc)
  go_enter Try.func23, Try.ntmps23
  go_wp2_with fail
  with_reducible refine HR.out.mono ?_
  rintro e w1 ⟨rfl, rfl⟩
  go_wp2_with fail
  go_ret
  exact ⟨rfl, below3 w _ _ _⟩
end Go.Proofs.Ytfplkjnnnbknoaa
