/- The small calls: a duct's room, whether something can be taken, ticks, a duct or a case at a place, cases that fit, an open duct. -/
import Derived.Test.YtjiepdgflfhkcaaAts
set_option linter.unusedSimpArgs false
set_option linter.unusedVariables false
namespace Go.Proofs.Ytjiepdgflfhkcaa
open Go.RowKit Go.Proofs.Ytjiepdgflfhkcaa.Kind Go.Proofs.Ytjiepdgflfhkcaa.P7

theorem ret_i64 {a b : Int} (h : a = b) : Ending.returned (.int .i64 a) = Ending.returned (.int .i64 b) := by rw [h]
theorem ret_bo {a b : Bool} (h : a = b) : Ending.returned (.bool a) = Ending.returned (.bool b) := by rw [h]
theorem loadVar_duct {w : World} {b : Nat} {x : Value} {a : Option Addr} {n c : Nat} {y : Bool} (h0 : w.cell? ⟨b, 0, none⟩ = some x) (h1 : w.cell? ⟨b, 1, none⟩ = some (.slice a n c)) (h2 : w.cell? ⟨b, 2, none⟩ = some (.bool y)) :
    (loadVar 42 ⟨b, 0, none⟩).run Try.prog w = .ok (.agg #[x, .slice a n c, .bool y]) w := by
  have a3 := Try.isAgg42
  have z3 := Try.sizeOf42
  simp [loadVar, go_sem, *]
theorem load3 {w : World} {b : Nat} {x : Value} {a : Option Addr} {n c : Nat} {y : Bool} {t : TypeId} (h : w.heap[b]? = some (.cells #[x, .slice a n c, .bool y] t (0, 0))) :
    (loadVar 42 ⟨b, 0, none⟩).run Try.prog w = .ok (.agg #[x, .slice a n c, .bool y]) w := loadVar_duct (box3 h).1.1 (box3 h).1.2.1 (box3 h).1.2.2
theorem load4 {w : World} {b : Nat} {x0 x1 x2 x3 : Int} {t : TypeId} (h : w.heap[b]? = some (.cells #[.int .i64 x0, .int .i64 x1, .int .i64 x2, .int .i64 x3] t (0, 0))) :
    (loadVar 30 ⟨b, 0, none⟩).run Try.prog w = .ok (.agg #[.int .i64 x0, .int .i64 x1, .int .i64 x2, .int .i64 x3]) w := by
  obtain ⟨⟨h0, h1, h2, h3⟩, _⟩ := box4 h
  have a3 := Try.isAgg30
  have z3 := Try.sizeOf30
  clear h
  simp [loadVar, go_sem, *]
theorem load6 {w : World} {b : Nat} {x : Lt} {t : TypeId} (h : w.heap[b]? = some (.cells #[.int .i8 x.kind, .int .i64 x.fr, .int .i64 x.num, .int .i64 x.sock, .string x.text, .int .i64 x.e] t (0, 0))) :
    (loadVar 36 ⟨b, 0, none⟩).run Try.prog w = .ok (.agg #[.int .i8 x.kind, .int .i64 x.fr, .int .i64 x.num, .int .i64 x.sock, .string x.text, .int .i64 x.e]) w := by
  obtain ⟨⟨h0, h1, h2, h3, h4, h5⟩, _⟩ := box6 h
  have a3 := Try.isAgg36
  have z3 := Try.sizeOf36
  clear h
  simp [loadVar, go_sem, *]
theorem load9 {w : World} {b : Nat} {x : Of} {t : TypeId} (h : w.heap[b]? = some (.cells #[.int .i8 x.kind, .int .i64 x.duct, .int .i8 x.m.kind, .int .i64 x.m.fr, .int .i64 x.m.num, .int .i64 x.m.sock, .string x.m.text, .int .i64 x.m.e, .int .i64 x.t] t (0, 0))) :
    (loadVar 38 ⟨b, 0, none⟩).run Try.prog w = .ok (.agg #[.int .i8 x.kind, .int .i64 x.duct, .int .i8 x.m.kind, .int .i64 x.m.fr, .int .i64 x.m.num, .int .i64 x.m.sock, .string x.m.text, .int .i64 x.m.e, .int .i64 x.t]) w := by
  obtain ⟨h0, h1, h2, h3, h4, h5, h6, h7, h8⟩ := box9 h
  have a3 := Try.isAgg38
  have z3 := Try.sizeOf38
  have a4 := Try.isAgg36
  have z4 := Try.sizeOf36
  clear h
  simp [loadVar, go_sem, *]

theorem tickOf_any (t : Int) (w : World) : Calls Try.prog 33 #[.int .i64 t] w fun e w' => e = .returned (.int .i64 (clampP t)) ∧ w' = w := by
  go_enter Try.func33, Try.ntmps33
  go_wp2_with fail
  all_goals
    go_ret
    refine ⟨ret_i64 ?_, rfl⟩
    unfold clampP
    repeat' split
    all_goals (first | omega | (split at * <;> omega))
theorem clamp_any (t : Int) (w : World) : Calls Try.prog 26 #[.int .i64 t] w fun e w' => e = .returned (.int .i64 (clampP t)) ∧ w' = w := by
  go_enter Try.func26, Try.ntmps26
  go_wp2_with fail
  refine (tickOf_any t _).mono ?_
  rintro e w1 ⟨rfl, rfl⟩
  go_wp2_with fail
  go_ret
  exact ⟨rfl, rfl⟩

set_option maxHeartbeats 4000000 in
set_option maxRecDepth 1000000 in
theorem ready_any (cap : Int) (a : Option Addr) (n c : Nat) (cl r : Bool) (hr : r = (decide (0 < n) || cl)) (w : World) :
    Calls Try.prog 25 #[.agg #[.int .i64 cap, .slice a n c, .bool cl]] w fun e w' => e = .returned (.bool r) ∧ Below w.heap.size w w' := by
  have HB := Lib.hid (below1 w (.cells #[.int .i64 cap, .slice a n c, .bool cl] 42))
  rcases (show n = 0 ∨ 0 < n by omega) with rfl | hn
  · obtain rfl : r = cl := by rw [hr]; simp
    clear hr
    go_enter Try.func25, Try.ntmps25
    go_wp2_with fail
    go_ret
    exact ⟨rfl, HB.out⟩
  · obtain rfl : r = true := by rw [hr]; simp [hn]
    clear hr
    go_enter Try.func25, Try.ntmps25
    go_wp2_with fail
    go_ret
    exact ⟨rfl, HB.out⟩

set_option maxHeartbeats 4000000 in
set_option maxRecDepth 1000000 in
/-- The room of a duct whose Cap is an int's: what is less than what lies in it is none. -/
theorem room_any (cap : Int) (a : Option Addr) (n c : Nat) (cl : Bool) (r : Int) (hn : n ≤ 9223372036854775807) (hc : cap ≤ 9223372036854775807) (hr : r = roomB cap n cl) (w : World) :
    Calls Try.prog 24 #[.agg #[.int .i64 cap, .slice a n c, .bool cl]] w fun e w' => e = .returned (.int .i64 r) ∧ Below w.heap.size w w' := by
  have HB := Lib.hid (below1 w (.cells #[.int .i64 cap, .slice a n c, .bool cl] 42))
  cases cl with
  | true =>
    obtain rfl : r = 0 := by rw [hr]; simp [roomB]
    clear hr
    go_enter Try.func24, Try.ntmps24
    go_wp2_with fail
    go_ret
    exact ⟨rfl, HB.out⟩
  | false =>
    by_cases h : cap ≤ (n : Int)
    · obtain rfl : r = 0 := by rw [hr]; simp [roomB, h]
      clear hr
      go_enter Try.func24, Try.ntmps24
      go_wp2_with fail
      go_ret
      exact ⟨rfl, HB.out⟩
    · obtain rfl : r = cap - n := by rw [hr]; simp [roomB, h]
      have hw : IntKind.i64.wrap (cap - (n : Int)) = cap - n := by rw [IntKind.wrap_i64]; omega
      clear hr
      go_enter Try.func24, Try.ntmps24
      go_wp2_with fail
      go_ret
      exact ⟨by first | rfl | (rw [hw]; rfl) | simp [hw], HB.out⟩

set_option maxHeartbeats 4000000 in
set_option maxRecDepth 1000000 in
theorem atd_some (D : List Dv) (p : Nat) (x : Dv) (hx : D[p]? = some x) (b : Option Addr) (c : Nat) (w : World) (hR : DK.RowC w b c D) :
    Calls Try.prog 23 #[.slice b D.length c, .int .i64 p] w fun e w' => e = .returned (.tuple #[.agg #[.int .i64 x.cap, .slice x.a x.n x.c, .bool x.closed], .bool true]) ∧ Below w.heap.size w w' := by
  have hp := (List.getElem?_eq_some_iff.1 hx).1
  obtain ⟨g, o, rfl, hb, hat⟩ := hR.2.2.2 (by omega)
  obtain ⟨c0, c1, c2⟩ := DK.three hat hx
  obtain ⟨cap, a, n, cc, cl⟩ := x
  have HB := Lib.hid (below1 w (.cells #[.int .i64 cap, .slice a n cc, .bool cl] 42))
  have HL := Lib.hid (laid1 w (.cells #[.int .i64 cap, .slice a n cc, .bool cl] 42))
  have hpi : (p : Int) < (D.length : Int) := by omega
  have hp0 : ¬ (p : Int) < 0 := by omega
  clear hR hat hx
  go_enter Try.func23, Try.ntmps23
  go_wp2_with fail
  refine bodyPost_ret (res_cell_tmp rfl _ _ _ w.heap.size rfl _ (load3 HL.out)) rfl ?_
  exact ⟨rfl, HB.out⟩
set_option maxHeartbeats 4000000 in
set_option maxRecDepth 1000000 in
theorem atd_none (n : Nat) (p : Int) (hp : p < 0 ∨ (n : Int) ≤ p) (b : Option Addr) (c : Nat) (w : World) :
    Calls Try.prog 23 #[.slice b n c, .int .i64 p] w fun e w' => e = .returned (.tuple #[.agg #[.int .i64 0, .slice none 0 0, .bool false], .bool false]) ∧ Below w.heap.size w w' := by
  have HB := Lib.hid (below1 w (.cells #[.int .i64 0, .slice none 0 0, .bool false] 42))
  have HL := Lib.hid (laid1 w (.cells #[.int .i64 0, .slice none 0 0, .bool false] 42))
  rcases hp with hp | hp
  · go_enter Try.func23, Try.ntmps23
    go_wp2_with fail
    refine bodyPost_ret (res_cell_tmp rfl _ _ _ w.heap.size rfl _ (load3 HL.out)) rfl ?_
    exact ⟨rfl, HB.out⟩
  · have hp0 : ¬ p < 0 := by omega
    go_enter Try.func23, Try.ntmps23
    go_wp2_with fail
    refine bodyPost_ret (res_cell_tmp rfl _ _ _ w.heap.size rfl _ (load3 HL.out)) rfl ?_
    exact ⟨rfl, HB.out⟩

/-- The duct at a place; none's is a zero one. -/
def dvAt (D : List Dv) (n : Int) : Dv := (atP D n).getD ⟨0, none, 0, 0, false⟩
theorem atd_any (D : List Dv) (p : Int) (x : Dv) (is : Bool) (hx : x = dvAt D p) (his : is = (atP D p).isSome) (b : Option Addr) (c : Nat) (w : World) (hR : DK.RowC w b c D) :
    Calls Try.prog 23 #[.slice b D.length c, .int .i64 p] w fun e w' => e = .returned (.tuple #[.agg #[.int .i64 x.cap, .slice x.a x.n x.c, .bool x.closed], .bool is]) ∧ Below w.heap.size w w' := by
  cases h : atP D p with
  | none =>
    subst hx his
    unfold dvAt
    rw [h]
    refine atd_none D.length p ?_ b c w
    unfold atP at h
    split at h
    · exact .inl (by assumption)
    · have := List.getElem?_eq_none_iff.1 h
      omega
  | some d =>
    subst hx his
    unfold dvAt
    rw [h]
    obtain ⟨k, rfl, hk⟩ := atP_some h
    exact atd_some D k d hk b c w hR

set_option maxHeartbeats 4000000 in
set_option maxRecDepth 1000000 in
theorem ato_some (l : List Of) (p : Nat) (x : Of) (hx : l[p]? = some x) (b : Option Addr) (c : Nat) (w : World) (hR : OK.RowC w b c l) :
    Calls Try.prog 31 #[.slice b l.length c, .int .i64 p] w fun e w' => e = .returned (.tuple #[.agg #[.int .i8 x.kind, .int .i64 x.duct, .int .i8 x.m.kind, .int .i64 x.m.fr, .int .i64 x.m.num, .int .i64 x.m.sock, .string x.m.text, .int .i64 x.m.e, .int .i64 x.t], .bool true]) ∧ Below w.heap.size w w' := by
  have hp := (List.getElem?_eq_some_iff.1 hx).1
  obtain ⟨g, o, rfl, hb, hat⟩ := hR.2.2.2 (by omega)
  obtain ⟨c0, c1, c2, c3, c4, c5, c6, c7, c8⟩ := OK.nine hat hx
  have HB := Lib.hid (below1 w (.cells #[.int .i8 x.kind, .int .i64 x.duct, .int .i8 x.m.kind, .int .i64 x.m.fr, .int .i64 x.m.num, .int .i64 x.m.sock, .string x.m.text, .int .i64 x.m.e, .int .i64 x.t] 38))
  have HL := Lib.hid (laid1 w (.cells #[.int .i8 x.kind, .int .i64 x.duct, .int .i8 x.m.kind, .int .i64 x.m.fr, .int .i64 x.m.num, .int .i64 x.m.sock, .string x.m.text, .int .i64 x.m.e, .int .i64 x.t] 38))
  have hpi : (p : Int) < (l.length : Int) := by omega
  have hp0 : ¬ (p : Int) < 0 := by omega
  clear hR hat hx
  go_enter Try.func31, Try.ntmps31
  go_wp2_with fail
  refine bodyPost_ret (res_cell_tmp rfl _ _ _ w.heap.size rfl _ (load9 HL.out)) rfl ?_
  exact ⟨rfl, HB.out⟩
set_option maxHeartbeats 4000000 in
set_option maxRecDepth 1000000 in
theorem ato_none (n : Nat) (p : Int) (hp : p < 0 ∨ (n : Int) ≤ p) (b : Option Addr) (c : Nat) (w : World) :
    Calls Try.prog 31 #[.slice b n c, .int .i64 p] w fun e w' => e = .returned (.tuple #[.agg #[.int .i8 0, .int .i64 0, .int .i8 0, .int .i64 0, .int .i64 0, .int .i64 0, .string ⟨#[]⟩, .int .i64 0, .int .i64 0], .bool false]) ∧ Below w.heap.size w w' := by
  have HB := Lib.hid (below1 w (.cells #[.int .i8 0, .int .i64 0, .int .i8 0, .int .i64 0, .int .i64 0, .int .i64 0, .string ⟨#[]⟩, .int .i64 0, .int .i64 0] 38))
  have HL := Lib.hid (laid1 w (.cells #[.int .i8 0, .int .i64 0, .int .i8 0, .int .i64 0, .int .i64 0, .int .i64 0, .string ⟨#[]⟩, .int .i64 0, .int .i64 0] 38))
  rcases hp with hp | hp
  · go_enter Try.func31, Try.ntmps31
    go_wp2_with fail
    refine bodyPost_ret (res_cell_tmp rfl _ _ _ w.heap.size rfl _ (load9 (x := ⟨0, 0, ⟨0, 0, 0, 0, ⟨#[]⟩, 0⟩, 0⟩) HL.out)) rfl ?_
    exact ⟨rfl, HB.out⟩
  · have hp0 : ¬ p < 0 := by omega
    go_enter Try.func31, Try.ntmps31
    go_wp2_with fail
    refine bodyPost_ret (res_cell_tmp rfl _ _ _ w.heap.size rfl _ (load9 (x := ⟨0, 0, ⟨0, 0, 0, 0, ⟨#[]⟩, 0⟩, 0⟩) HL.out)) rfl ?_
    exact ⟨rfl, HB.out⟩
end Go.Proofs.Ytjiepdgflfhkcaa
