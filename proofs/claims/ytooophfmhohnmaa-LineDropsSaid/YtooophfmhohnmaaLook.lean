/- Where a number stands; rows that are the same; the document's own. -/
import Derived.Test.YtooophfmhohnmaaRow
set_option linter.unusedSimpArgs false
set_option linter.unusedVariables false
namespace Go.Proofs.Ytooophfmhohnmaa
open Go.RowKit

theorem P.place_step (n x : Int) (k : Nat) (l : List Int) (h : x ≠ n) : P.placeF n k (x :: l) = P.placeF n (k + 1) l := by rw [P.placeF, if_neg h]
theorem P.place_hit (n x : Int) (k : Nat) (l : List Int) (h : x = n) : P.placeF n k (x :: l) = k := by rw [P.placeF, if_pos h]

set_option maxHeartbeats 4000000 in
set_option maxRecDepth 1000000 in
theorem index_any (l : List Int) (n : Int) (a : Option Addr) (c : Nat) (w : World) (hl : l.length ≤ 1000000) (hA : RowC w a c l) :
    Calls Try.prog 26 #[.slice a l.length c, .int .i64 n] w fun e w' => e = .returned (.int .i64 (P.place l n)) ∧ w' = w := by
  have HA := Lib.hid hA.2.2.2
  clear hA
  go_enter Try.func26, Try.ntmps26
  go_wp2_with fail
  go_loopw [4, 5, 8] (fun u4 u5 u8 wr => ∃ k : Nat, u8 = .int .i64 k ∧ k ≤ l.length ∧ wr = w ∧ u4 = .int .i64 0 ∧ Hid (P.placeF n k (l.drop k) = P.place l n)) (fun _ _ u8 _ => l.length - (intOf u8).toNat)
  case atStart => exact ⟨0, rfl, by omega, rfl, rfl, Lib.hid rfl⟩
  case round =>
    obtain ⟨k, rfl, hk, rfl, rfl, HF⟩ := hrel
    by_cases hlt : k < l.length
    · obtain ⟨b, o, rfl, hb, hat⟩ := HA.out (by omega)
      obtain ⟨x, hx⟩ : ∃ x, l[k]? = some x := ⟨_, List.getElem?_eq_getElem hlt⟩
      have hc := hat k x hx
      have HX := Lib.hid (P.drop_at l k x hx)
      clear hat hx
      by_cases h : x = n
      · have HR := Lib.hid (show P.place l n = (k : Int) by rw [← HF.out, HX.out, P.place_hit _ _ _ _ h])
        have h1 : (n == x) = true := by simp [h]
        clear h
        go_wp2_with fail
        go_ret
        exact ⟨by rw [HR.out]; rfl, rfl⟩
      · have HR := Lib.hid (P.place_step n x k (l.drop (k + 1)) h)
        have h1 : (n == x) = false := by rw [beq_eq_false_iff_ne]; exact fun e => h e.symm
        clear h
        go_wp2_with fail
        go_roundw
        case rel => exact ⟨k + 1, by go_num, by omega, by trivial, by trivial, Lib.hid (by rw [← HF.out, HX.out, HR.out])⟩
        case measure => simp [intOf]; omega
    · obtain rfl : k = l.length := by omega
      have h := HF.out
      rw [List.drop_length] at h
      have H2 := Lib.hid (show (-1 : Int) = P.place l n from h)
      clear h
      go_wp2_with fail
      go_ret
      exact ⟨by rw [← H2.out]; rfl, rfl⟩

theorem place_any (l : List Int) (n : Int) (a : Option Addr) (c : Nat) (w : World) (hl : l.length ≤ 1000000) (hA : RowC w a c l) :
    Calls Try.prog 19 #[.slice a l.length c, .int .i64 n] w fun e w' => e = .returned (.int .i64 (P.place l n)) ∧ w' = w := by
  have HR := Lib.hid (index_any l n a c w hl hA)
  clear hA
  go_enter Try.func19, Try.ntmps19
  go_wp2_with fail
  refine HR.out.mono ?_
  rintro e w1 ⟨rfl, hw⟩
  subst w1
  go_wp2_with fail
  go_ret
  exact ⟨rfl, rfl⟩

set_option maxHeartbeats 4000000 in
set_option maxRecDepth 1000000 in
theorem rplace_any (l : List Int) (n : Int) (a : Option Addr) (c : Nat) (w : World) (hl : l.length ≤ 1000000) (hA : RowC w a c l) :
    Calls Try.prog 20 #[.slice a l.length c, .int .i64 n] w fun e w' => e = .returned (.int .i64 (P.place l n)) ∧ w' = w := by
  have HA := Lib.hid hA.2.2.2
  clear hA
  go_enter Try.func20, Try.ntmps20
  go_wp2_with fail
  go_loopw [4, 5] (fun u4 u8 wr => ∃ k : Nat, u8 = .int .i64 k ∧ k ≤ l.length ∧ wr = w ∧ u4 = .int .i64 0 ∧ Hid (P.placeF n k (l.drop k) = P.place l n)) (fun _ u8 _ => l.length - (intOf u8).toNat)
  case atStart => exact ⟨0, rfl, by omega, rfl, rfl, Lib.hid rfl⟩
  case round =>
    obtain ⟨k, rfl, hk, rfl, rfl, HF⟩ := hrel
    by_cases hlt : k < l.length
    · obtain ⟨b, o, rfl, hb, hat⟩ := HA.out (by omega)
      obtain ⟨x, hx⟩ : ∃ x, l[k]? = some x := ⟨_, List.getElem?_eq_getElem hlt⟩
      have hc := hat k x hx
      have HX := Lib.hid (P.drop_at l k x hx)
      clear hat hx
      by_cases h : x = n
      · have HR := Lib.hid (show P.place l n = (k : Int) by rw [← HF.out, HX.out, P.place_hit _ _ _ _ h])
        have h1 : (x == n) = true := by simp [h]
        clear h
        go_wp2_with fail
        go_ret
        exact ⟨by rw [HR.out]; rfl, rfl⟩
      · have HR := Lib.hid (P.place_step n x k (l.drop (k + 1)) h)
        have h1 : (x == n) = false := by rw [beq_eq_false_iff_ne]; exact h
        clear h
        go_wp2_with fail
        go_roundw
        case rel => exact ⟨k + 1, by go_num, by omega, by trivial, by trivial, Lib.hid (by rw [← HF.out, HX.out, HR.out])⟩
        case measure => simp [intOf]; omega
    · obtain rfl : k = l.length := by omega
      have h := HF.out
      rw [List.drop_length] at h
      have H2 := Lib.hid (show (-1 : Int) = P.place l n from h)
      clear h
      go_wp2_with fail
      go_ret
      exact ⟨by rw [← H2.out]; rfl, rfl⟩

theorem P.same_at (l m : List Int) (k : Nat) (x y : Int) (hx : l[k]? = some x) (hy : m[k]? = some y) : (l.drop k = m.drop k) ↔ (x = y ∧ l.drop (k + 1) = m.drop (k + 1)) := by
  rw [P.drop_at l k x hx, P.drop_at m k y hy]; simp

set_option maxHeartbeats 4000000 in
set_option maxRecDepth 1000000 in
theorem equal_any (l m : List Int) (a b : Option Addr) (c d : Nat) (w : World) (hl : l.length ≤ 1000000) (hml : m.length ≤ 1000000) (hA : RowC w a c l) (hB : RowC w b d m) :
    Calls Try.prog 28 #[.slice a l.length c, .slice b m.length d] w fun e w' => e = .returned (.bool (decide (l = m))) ∧ Below w.heap.size w w' := by
  have HA := Lib.hid hA.2.2.2
  have HB := Lib.hid hB.2.2.2
  clear hA hB
  by_cases hn : l.length = m.length
  · have HN := Lib.hid hn
    rw [← hn]
    clear hn
    go_enter Try.func28, Try.ntmps28
    go_wp2_with fail
    go_loopw [4, 5, 13] (fun u4 u5 u13 wr => ∃ k : Nat, u13 = .int .i64 k ∧ k ≤ l.length ∧ Below w.heap.size w wr ∧ u4 = .bool false ∧ Hid (l = m ↔ l.drop k = m.drop k)) (fun _ _ u _ => l.length - (intOf u).toNat)
    case atStart => exact ⟨0, rfl, by omega, Below.refl _ _, rfl, Lib.hid (by simp)⟩
    case round =>
      obtain ⟨k, rfl, hk, hbw, rfl, HF⟩ := hrel
      by_cases hlt : k < l.length
      · obtain ⟨b1, o1, rfl, hb1, hat1⟩ := (HA.out.below hbw) (by omega)
        obtain ⟨b2, o2, rfl, hb2, hat2⟩ := (HB.out.below hbw) (by rw [← HN.out]; omega)
        obtain ⟨x, hx⟩ : ∃ x, l[k]? = some x := ⟨_, List.getElem?_eq_getElem hlt⟩
        obtain ⟨y, hy⟩ : ∃ y, m[k]? = some y := ⟨_, List.getElem?_eq_getElem (by rw [← HN.out]; exact hlt)⟩
        have hc1 := hat1 k x hx
        have hc2 := hat2 k y hy
        have hk0 : (0 : Int) ≤ (k : Int) := by omega
        have hk1 : (k : Int) < (l.length : Int) := by omega
        have HX := Lib.hid (P.same_at l m k x y hx hy)
        clear hat1 hat2 hx hy
        by_cases h : x = y
        · have HR := Lib.hid (show l = m ↔ l.drop (k + 1) = m.drop (k + 1) by rw [HF.out, HX.out]; simp [h])
          subst h
          go_wp2_with fail
          go_quiet (fail)
          go_wp2_with fail
          go_roundw
          case rel => exact ⟨k + 1, by go_num, by omega, below_drewN hbw _, rfl, HR⟩
          case measure => simp [intOf]; omega
        · have HR := Lib.hid (show decide (l = m) = false by rw [decide_eq_false_iff_not, HF.out, HX.out]; simp [h])
          have h1 : (x == y) = false := by rw [beq_eq_false_iff_ne]; exact h
          clear h
          go_wp2_with fail
          go_quiet (fail)
          go_wp2_with fail
          go_ret
          exact ⟨by rw [HR.out]; rfl, below_drewN hbw _⟩
      · obtain rfl : k = l.length := by omega
        have HR := Lib.hid (show decide (l = m) = true by
          have h := HF.out
          rw [List.drop_length, HN.out, List.drop_length] at h
          simpa using h)
        go_wp2_with fail
        go_ret
        exact ⟨by rw [HR.out]; rfl, hbw⟩
  · have HR := Lib.hid (show decide (l = m) = false by rw [decide_eq_false_iff_not]; intro e; exact hn (by rw [e]))
    have h1 : ((l.length : Int) == (m.length : Int)) = false := by rw [beq_eq_false_iff_ne]; omega
    clear hn
    go_enter Try.func28, Try.ntmps28
    go_wp2_with fail
    go_ret
    exact ⟨by rw [HR.out]; rfl, Below.refl _ _⟩

theorem same_any (l m : List Int) (a b : Option Addr) (c d : Nat) (w : World) (hl : l.length ≤ 1000000) (hml : m.length ≤ 1000000) (hA : RowC w a c l) (hB : RowC w b d m) :
    Calls Try.prog 23 #[.slice a l.length c, .slice b m.length d] w fun e w' => e = .returned (.bool (decide (l = m))) ∧ Below w.heap.size w w' := by
  have HR := Lib.hid (equal_any l m a b c d w hl hml hA hB)
  clear hA hB
  go_enter Try.func23, Try.ntmps23
  go_wp2_with fail
  refine HR.out.mono ?_
  rintro e w1 ⟨rfl, hw⟩
  go_wp2_with fail
  go_ret
  exact ⟨rfl, hw⟩

set_option maxHeartbeats 4000000 in
set_option maxRecDepth 1000000 in
theorem rsame_any (l m : List Int) (a b : Option Addr) (c d : Nat) (w : World) (hl : l.length ≤ 1000000) (hml : m.length ≤ 1000000) (hA : RowC w a c l) (hB : RowC w b d m) :
    Calls Try.prog 14 #[.slice a l.length c, .slice b m.length d] w fun e w' => e = .returned (.bool (decide (l = m))) ∧ Below w.heap.size w w' := by
  have HA := Lib.hid hA.2.2.2
  have HB := Lib.hid hB.2.2.2
  clear hA hB
  by_cases hn : l.length = m.length
  · have HN := Lib.hid hn
    rw [← hn]
    clear hn
    go_enter Try.func14, Try.ntmps14
    go_wp2_with fail
    go_loopw [4, 5] (fun u4 u13 wr => ∃ k : Nat, u13 = .int .i64 k ∧ k ≤ l.length ∧ Below w.heap.size w wr ∧ u4 = .bool false ∧ Hid (l = m ↔ l.drop k = m.drop k)) (fun _ u _ => l.length - (intOf u).toNat)
    case atStart => exact ⟨0, rfl, by omega, Below.refl _ _, rfl, Lib.hid (by simp)⟩
    case round =>
      obtain ⟨k, rfl, hk, hbw, rfl, HF⟩ := hrel
      by_cases hlt : k < l.length
      · obtain ⟨b1, o1, rfl, hb1, hat1⟩ := (HA.out.below hbw) (by omega)
        obtain ⟨b2, o2, rfl, hb2, hat2⟩ := (HB.out.below hbw) (by rw [← HN.out]; omega)
        obtain ⟨x, hx⟩ : ∃ x, l[k]? = some x := ⟨_, List.getElem?_eq_getElem hlt⟩
        obtain ⟨y, hy⟩ : ∃ y, m[k]? = some y := ⟨_, List.getElem?_eq_getElem (by rw [← HN.out]; exact hlt)⟩
        have hc1 := hat1 k x hx
        have hc2 := hat2 k y hy
        have hk0 : (0 : Int) ≤ (k : Int) := by omega
        have hk1 : (k : Int) < (l.length : Int) := by omega
        have HX := Lib.hid (P.same_at l m k x y hx hy)
        clear hat1 hat2 hx hy
        by_cases h : x = y
        · have HR := Lib.hid (show l = m ↔ l.drop (k + 1) = m.drop (k + 1) by rw [HF.out, HX.out]; simp [h])
          subst h
          go_wp2_with fail
          go_quiet (fail)
          go_wp2_with fail
          go_roundw
          case rel => exact ⟨k + 1, by go_num, by omega, below_drewN hbw _, rfl, HR⟩
          case measure => simp [intOf]; omega
        · have HR := Lib.hid (show decide (l = m) = false by rw [decide_eq_false_iff_not, HF.out, HX.out]; simp [h])
          have h1 : (x == y) = false := by rw [beq_eq_false_iff_ne]; exact h
          clear h
          go_wp2_with fail
          go_quiet (fail)
          go_wp2_with fail
          go_ret
          exact ⟨by rw [HR.out]; rfl, below_drewN hbw _⟩
      · obtain rfl : k = l.length := by omega
        have HR := Lib.hid (show decide (l = m) = true by
          have h := HF.out
          rw [List.drop_length, HN.out, List.drop_length] at h
          simpa using h)
        go_wp2_with fail
        go_ret
        exact ⟨by rw [HR.out]; rfl, hbw⟩
  · have HR := Lib.hid (show decide (l = m) = false by rw [decide_eq_false_iff_not]; intro e; exact hn (by rw [e]))
    have h1 : ((l.length : Int) == (m.length : Int)) = false := by rw [beq_eq_false_iff_ne]; omega
    clear hn
    go_enter Try.func14, Try.ntmps14
    go_wp2_with fail
    go_ret
    exact ⟨by rw [HR.out]; rfl, Below.refl _ _⟩
end Go.Proofs.Ytooophfmhohnmaa
