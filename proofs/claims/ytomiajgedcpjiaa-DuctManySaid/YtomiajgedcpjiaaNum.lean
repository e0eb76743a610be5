/- The ducts of a goroutine, and their numbers. -/
import Derived.Test.YtomiajgedcpjiaaRef
set_option linter.unusedSimpArgs false
set_option linter.unusedVariables false
namespace Go.Proofs.Ytomiajgedcpjiaa
open Go.RowKit Go.Proofs.Ytomiajgedcpjiaa.Kind

def I64 (n : Int) : Prop := -9223372036854775808 ≤ n ∧ n ≤ 9223372036854775807
def ofB (p q : Int) : Int := if p < 0 ∨ q < 0 ∨ 5 ≤ q then -1 else 5 * p + q

set_option maxHeartbeats 4000000 in
set_option maxRecDepth 1000000 in
theorem of_any (p q : Int) (w : World) (hp : p ≤ 288230376151711744) :
    Calls Try.prog 14 #[.int .i64 p, .int .i64 q] w fun e w' => e = .returned (.int .i64 (ofB p q)) ∧ w' = w := by
  rcases (show p < 0 ∨ (0 ≤ p ∧ q < 0) ∨ (0 ≤ p ∧ 5 ≤ q) ∨ (0 ≤ p ∧ q = 0) ∨ (0 ≤ p ∧ q = 1) ∨ (0 ≤ p ∧ q = 2) ∨ (0 ≤ p ∧ q = 3) ∨ (0 ≤ p ∧ q = 4) by omega) with h | ⟨h, h2⟩ | ⟨h, h2⟩ | ⟨h, rfl⟩ | ⟨h, rfl⟩ | ⟨h, rfl⟩ | ⟨h, rfl⟩ | ⟨h, rfl⟩
  · have HR := Lib.hid (show ofB p q = -1 by simp [ofB, h])
    go_enter Try.func14, Try.ntmps14
    go_wp2_with fail
    go_ret
    exact ⟨by rw [HR.out]; rfl, rfl⟩
  · have HR := Lib.hid (show ofB p q = -1 by simp [ofB, h2])
    go_enter Try.func14, Try.ntmps14
    go_wp2_with fail
    go_ret
    exact ⟨by rw [HR.out]; rfl, rfl⟩
  · have HR := Lib.hid (show ofB p q = -1 by simp [ofB, h2])
    have h3 : ¬ q < 0 := by omega
    go_enter Try.func14, Try.ntmps14
    go_wp2_with fail
    go_ret
    exact ⟨by rw [HR.out]; rfl, rfl⟩
  all_goals
    go_enter Try.func14, Try.ntmps14
    go_wp2_with fail
    go_ret
    exact ⟨by simp [ofB]; omega, rfl⟩

set_option maxHeartbeats 4000000 in
set_option maxRecDepth 1000000 in
theorem rof_any (p q : Int) (w : World) (hp : p ≤ 288230376151711744) :
    Calls Try.prog 15 #[.int .i64 p, .int .i64 q] w fun e w' => e = .returned (.int .i64 (ofB p q)) ∧ w' = w := by
  rcases (show p < 0 ∨ (0 ≤ p ∧ q < 0) ∨ (0 ≤ p ∧ 5 ≤ q) ∨ (0 ≤ p ∧ 0 ≤ q ∧ q < 5) by omega) with h | ⟨h, h2⟩ | ⟨h, h2⟩ | ⟨h, h2, h3⟩
  · have HR := Lib.hid (show ofB p q = -1 by simp [ofB, h])
    go_enter Try.func15, Try.ntmps15
    go_wp2_with fail
    go_ret
    exact ⟨by rw [HR.out]; rfl, rfl⟩
  · have HR := Lib.hid (show ofB p q = -1 by simp [ofB, h2])
    go_enter Try.func15, Try.ntmps15
    go_wp2_with fail
    go_ret
    exact ⟨by rw [HR.out]; rfl, rfl⟩
  · have HR := Lib.hid (show ofB p q = -1 by simp [ofB, h2])
    have h3 : ¬ q < 0 := by omega
    go_enter Try.func15, Try.ntmps15
    go_wp2_with fail
    go_ret
    exact ⟨by rw [HR.out]; rfl, rfl⟩
  · have HR := Lib.hid (show ofB p q = 5 * p + q by unfold ofB; rw [if_neg (by omega)])
    go_enter Try.func15, Try.ntmps15
    go_wp2_with fail
    go_ret
    exact ⟨by rw [HR.out]; rfl, rfl⟩

def WhoseR (n x y : Int) : Prop := (n < 0 ∧ x = -1 ∧ y = -1) ∨ (0 ≤ n ∧ x = n / 5 ∧ y = n % 5)

set_option maxHeartbeats 4000000 in
set_option maxRecDepth 1000000 in
theorem whose_any (n x y : Int) (w : World) (hR : WhoseR n x y) (h2 : n ≤ 9223372036854775807) :
    Calls Try.prog 16 #[.int .i64 n] w fun e w' => e = .returned (.tuple #[.int .i64 x, .int .i64 y]) ∧ w' = w := by
  rcases hR with ⟨h, rfl, rfl⟩ | ⟨h, rfl, rfl⟩
  all_goals
    go_enter Try.func16, Try.ntmps16
    go_wp2_with fail
    go_ret2
    exact ⟨rfl, rfl⟩

set_option maxHeartbeats 4000000 in
set_option maxRecDepth 1000000 in
theorem rwhose_any (n x y : Int) (w : World) (hR : WhoseR n x y) (h2 : n ≤ 9223372036854775807) :
    Calls Try.prog 17 #[.int .i64 n] w fun e w' => e = .returned (.tuple #[.int .i64 x, .int .i64 y]) ∧ w' = w := by
  rcases hR with ⟨h, rfl, rfl⟩ | ⟨h, rfl, rfl⟩
  all_goals
    go_enter Try.func17, Try.ntmps17
    go_wp2_with fail
    go_ret2
    exact ⟨rfl, rfl⟩

/-- A goroutine's ducts at first. -/
def dvs (f : Int) : List Dv := [⟨0, none, 0, 0, false⟩, ⟨0, none, 0, 0, false⟩, ⟨1, none, 0, 0, false⟩, ⟨1, none, 0, 0, false⟩, ⟨f, none, 0, 0, false⟩]
def CapR (n f : Int) : Prop := (n < 0 ∧ f = 0) ∨ (0 ≤ n ∧ 64 < n ∧ f = 64) ∨ (0 ≤ n ∧ n ≤ 64 ∧ f = n)

set_option maxHeartbeats 4000000 in
set_option maxRecDepth 1000000 in
theorem rown_any (n f : Int) (hR : CapR n f) (w : World) :
    Calls Try.prog 20 #[.int .i64 n] w fun e w' => ∃ a c, e = .returned (.slice a 5 c) ∧ DK.RowC w' a c (dvs f) ∧ Below w.heap.size w w' := by
  have HA := Lib.hid (rowC_at (K := DK) w 26 (dvs f) _ _ 5 rfl rfl rfl (by simp [dvs]))
  rcases hR with ⟨h, rfl⟩ | ⟨h, h2, rfl⟩ | ⟨h, h2, rfl⟩
  all_goals
    go_enter Try.func20, Try.ntmps20
    go_wp2_with fail
    go_ret
    exact ⟨_, 5, rfl, HA.out, (Below.refl _ _).alloc (Nat.le_refl _) _⟩

theorem laid1 (w : World) (o : Obj) : (w.alloc o).heap[w.heap.size]? = some o := heap_alloc_new w o
theorem box15 {w : World} {g : Nat} {x0 x1 x2 x3 x4 x5 x6 x7 x8 x9 x10 x11 x12 x13 x14 : Value} {t : TypeId} (h : w.heap[g]? = some (.cells #[x0, x1, x2, x3, x4, x5, x6, x7, x8, x9, x10, x11, x12, x13, x14] t (0, 0))) :
    (w.cell? ⟨g, 0, none⟩ = some x0 ∧ w.cell? ⟨g, 1, none⟩ = some x1 ∧ w.cell? ⟨g, 2, none⟩ = some x2) ∧ (w.cell? ⟨g, 3, none⟩ = some x3 ∧ w.cell? ⟨g, 4, none⟩ = some x4 ∧ w.cell? ⟨g, 5, none⟩ = some x5) ∧
    (w.cell? ⟨g, 6, none⟩ = some x6 ∧ w.cell? ⟨g, 7, none⟩ = some x7 ∧ w.cell? ⟨g, 8, none⟩ = some x8) ∧ (w.cell? ⟨g, 9, none⟩ = some x9 ∧ w.cell? ⟨g, 10, none⟩ = some x10 ∧ w.cell? ⟨g, 11, none⟩ = some x11) ∧
    (w.cell? ⟨g, 12, none⟩ = some x12 ∧ w.cell? ⟨g, 13, none⟩ = some x13 ∧ w.cell? ⟨g, 14, none⟩ = some x14) := by
  simp [World.cell?, h]

end Go.Proofs.Ytomiajgedcpjiaa
