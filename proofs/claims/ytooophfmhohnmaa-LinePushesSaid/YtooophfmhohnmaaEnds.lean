/- Front and Back, and the document's own. -/
import Derived.Test.YtooophfmhohnmaaPush
import Derived.Deep.RegionHeld3
set_option linter.unusedSimpArgs false
set_option linter.unusedVariables false
namespace Go.Proofs.Ytooophfmhohnmaa
open Go.RowKit


set_option maxHeartbeats 4000000 in
set_option maxRecDepth 1000000 in
theorem front_some (x : Int) (l m : List Int) (hm : m = x :: l) (a : Option Addr) (c : Nat) (w : World) (hl : m.length ≤ 100000) (hA : RowC w a c m) :
    Calls Try.prog 10 #[.slice a m.length c] w fun e w' => ∃ a' c', e = .returned (.tuple #[.int .i64 x, .slice a' l.length c', .bool true]) ∧ MineC w' w.heap.size a' c' l ∧ Below w.heap.size w w' := by
  have hn : m.length = l.length + 1 := by rw [hm]; simp
  obtain ⟨b, o, rfl, hb, hat⟩ := hA.2.2.2 (by omega)
  have hc0 : w.cell? ⟨b, o, none⟩ = some (.int .i64 x) := hat 0 x (by rw [hm]; rfl)
  have hD := hA.drop (a' := if c = 1 then some ⟨b, o, none⟩ else some ⟨b, o + 1, none⟩) 1 (by omega) (by simp [add_at])
  rw [hm, List.drop_one, List.tail_cons] at hD
  have hc1 := hA.1
  have hc2 := hA.2.1
  unfold maxLen at hc2
  obtain ⟨k, hk⟩ : ∃ k, l.length = k := ⟨_, rfl⟩
  rw [hk] at hn
  have HK := Lib.hid hk
  obtain ⟨n, hnn⟩ : ∃ n, m.length = n := ⟨_, rfl⟩
  rw [hnn] at hn hl hc1 ⊢
  subst hn
  rw [hk]
  have HL := Lib.hid hl
  have HC0 := Lib.hid (show w.drew.cell? ⟨b, o, none⟩ = some (.int .i64 x) from hc0)
  clear hm hA hat hnn hk
  rcases (show (c = 1 ∧ k = 0) ∨ c ≠ 1 by omega) with ⟨hc, h00⟩ | hc
  all_goals
    try subst h00
    simp only [hc, if_true, if_false] at hD
    have HR := Lib.hid (row_any l [] l (by simp) _ none _ 0 w.drew (by rw [HK.out]; have := HL.out; omega) (by simp) (hD.below (Below.refl _ _).drew) (row_none _))
    rw [HK.out, List.length_nil] at HR
    try simp only [Nat.sub_self] at HR
    try have h1 : (1 : Int) ≤ (k : Int) + 1 := by omega
    try have h2 : (k : Int) ≤ (c : Int) := by omega
    try have hz : (((k : Int) + 1) == 0) = false := by rw [beq_eq_false_iff_ne]; omega
    clear hD
    try subst hc
    go_enter Try.func10, Try.ntmps10
    go_wp2_with fail
    go_region_held3 (fun w' => w'.cell? ⟨b, o, none⟩ = some (.int .i64 x)) (go_keep) (first
      | (go_at_call 24; with_reducible refine HR.out.mono ?_; rintro e w2 ⟨a2, c2, rfl, hM, hB⟩; have hc3 : w2.cell? ⟨b, o, none⟩ = some (.int .i64 x) := (hB.cell (p := ⟨b, o, none⟩) (by simpa using hb)).trans HC0.out))
    go_wp2_with fail
    go_ret3
    exact ⟨a2, c2, rfl, hM, (Below.refl _ _).drew.trans hB⟩

theorem front_none (a : Option Addr) (c : Nat) (w : World) :
    Calls Try.prog 10 #[.slice a 0 c] w fun e w' => e = .returned (.tuple #[.int .i64 0, .slice none 0 0, .bool false]) ∧ Below w.heap.size w w' := by
  go_enter Try.func10, Try.ntmps10
  go_wp2_with fail
  try go_quiet (fail)
  try go_wp2_with fail
  go_ret3
  exact ⟨rfl, by first | exact Below.refl _ _ | exact (Below.refl _ _).drew⟩

theorem front_any (x : Int) (l m : List Int) (q : Bool) (hm : (m = x :: l ∧ q = true) ∨ (m = [] ∧ x = 0 ∧ l = [] ∧ q = false)) (a : Option Addr) (c : Nat) (w : World) (hl : m.length ≤ 100000) (hA : RowC w a c m) :
    Calls Try.prog 10 #[.slice a m.length c] w fun e w' => ∃ a' c', e = .returned (.tuple #[.int .i64 x, .slice a' l.length c', .bool q]) ∧ MineC w' w.heap.size a' c' l ∧ Below w.heap.size w w' := by
  rcases hm with ⟨hm, rfl⟩ | ⟨rfl, rfl, rfl, rfl⟩
  · exact front_some x l m hm a c w hl hA
  · exact (front_none a c w).mono fun e w' ⟨h1, h2⟩ => ⟨none, 0, h1, mine_none _ _, h2⟩


set_option maxHeartbeats 4000000 in
set_option maxRecDepth 1000000 in
theorem back_some (x : Int) (l m : List Int) (hm : m = l ++ [x]) (a : Option Addr) (c : Nat) (w : World) (hl : m.length ≤ 100000) (hA : RowC w a c m) :
    Calls Try.prog 12 #[.slice a m.length c] w fun e w' => ∃ a' c', e = .returned (.tuple #[.int .i64 x, .slice a' l.length c', .bool true]) ∧ MineC w' w.heap.size a' c' l ∧ Below w.heap.size w w' := by
  have hn : m.length = l.length + 1 := by rw [hm]; simp
  obtain ⟨b, o, rfl, hb, hat⟩ := hA.2.2.2 (by omega)
  have hc0 : w.cell? ⟨b, o + l.length, none⟩ = some (.int .i64 x) := hat l.length x (by rw [hm]; simp)
  have hD := hA.take (a' := some ⟨b, o, none⟩) l.length (by omega) rfl
  rw [hm, List.take_left] at hD
  have hc1 := hA.1
  have hc2 := hA.2.1
  unfold maxLen at hc2
  obtain ⟨k, hk⟩ : ∃ k, l.length = k := ⟨_, rfl⟩
  rw [hk] at hn hc0
  have HK := Lib.hid hk
  obtain ⟨n, hnn⟩ : ∃ n, m.length = n := ⟨_, rfl⟩
  rw [hnn] at hn hl hc1 ⊢
  subst hn
  rw [hk]
  have HL := Lib.hid hl
  have HC0 := Lib.hid (show w.drew.cell? ⟨b, o + k, none⟩ = some (.int .i64 x) from hc0)
  clear hm hA hat hnn hk
  all_goals
    have h3 : (0 : Int) ≤ (k : Int) := by omega
    have h4 : (k : Int) < (k : Int) + 1 := by omega
    have hw1 : IntKind.i64.wrap ((k : Int) + 1 - 1) = (k : Int) := by rw [Int.add_sub_cancel]; exact IntWalk.i64_in _ (by omega)
    have hw3 : IntKind.i64.wrap (k : Int) = (k : Int) := IntWalk.i64_in _ (by omega)
    have HR := Lib.hid (row_any l [] l (by simp) _ none _ 0 w.drew (by rw [HK.out]; have := HL.out; omega) (by simp) (hD.below (Below.refl _ _).drew) (row_none _))
    rw [HK.out, List.length_nil] at HR
    try simp only [Nat.sub_self] at HR
    try have h1 : (1 : Int) ≤ (k : Int) + 1 := by omega
    try have h2 : (k : Int) ≤ (c : Int) := by omega
    try have hz : (((k : Int) + 1) == 0) = false := by rw [beq_eq_false_iff_ne]; omega
    clear hD
    try subst hc
    go_enter Try.func12, Try.ntmps12
    go_wp2_with fail
    go_region_held3 (fun w' => w'.cell? ⟨b, o + k, none⟩ = some (.int .i64 x)) (go_keep) (first
      | (go_at_call 24; with_reducible refine HR.out.mono ?_; rintro e w2 ⟨a2, c2, rfl, hM, hB⟩; have hc3 : w2.cell? ⟨b, o + k, none⟩ = some (.int .i64 x) := (hB.cell (p := ⟨b, o + k, none⟩) (by simpa using hb)).trans HC0.out))
    go_wp2_with fail
    go_ret3
    exact ⟨a2, c2, rfl, hM, (Below.refl _ _).drew.trans hB⟩

theorem back_none (a : Option Addr) (c : Nat) (w : World) :
    Calls Try.prog 12 #[.slice a 0 c] w fun e w' => e = .returned (.tuple #[.int .i64 0, .slice none 0 0, .bool false]) ∧ Below w.heap.size w w' := by
  go_enter Try.func12, Try.ntmps12
  go_wp2_with fail
  try go_quiet (fail)
  try go_wp2_with fail
  go_ret3
  exact ⟨rfl, by first | exact Below.refl _ _ | exact (Below.refl _ _).drew⟩

theorem back_any (x : Int) (l m : List Int) (q : Bool) (hm : (m = l ++ [x] ∧ q = true) ∨ (m = [] ∧ x = 0 ∧ l = [] ∧ q = false)) (a : Option Addr) (c : Nat) (w : World) (hl : m.length ≤ 100000) (hA : RowC w a c m) :
    Calls Try.prog 12 #[.slice a m.length c] w fun e w' => ∃ a' c', e = .returned (.tuple #[.int .i64 x, .slice a' l.length c', .bool q]) ∧ MineC w' w.heap.size a' c' l ∧ Below w.heap.size w w' := by
  rcases hm with ⟨hm, rfl⟩ | ⟨rfl, rfl, rfl, rfl⟩
  · exact back_some x l m hm a c w hl hA
  · exact (back_none a c w).mono fun e w' ⟨h1, h2⟩ => ⟨none, 0, h1, mine_none _ _, h2⟩


set_option maxHeartbeats 4000000 in
set_option maxRecDepth 1000000 in
theorem rfront_some (x : Int) (l m : List Int) (hm : m = x :: l) (a : Option Addr) (c : Nat) (w : World) (hl : m.length ≤ 100000) (hA : RowC w a c m) :
    Calls Try.prog 11 #[.slice a m.length c] w fun e w' => ∃ a' c', e = .returned (.tuple #[.int .i64 x, .slice a' l.length c', .bool true]) ∧ MineC w' w.heap.size a' c' l ∧ Below w.heap.size w w' := by
  have hn : m.length = l.length + 1 := by rw [hm]; simp
  obtain ⟨b, o, rfl, hb, hat⟩ := hA.2.2.2 (by omega)
  have hc0 : w.cell? ⟨b, o, none⟩ = some (.int .i64 x) := hat 0 x (by rw [hm]; rfl)
  have hD := hA.drop (a' := if c = 1 then some ⟨b, o, none⟩ else some ⟨b, o + 1, none⟩) 1 (by omega) (by simp [add_at])
  rw [hm, List.drop_one, List.tail_cons] at hD
  have hc1 := hA.1
  have hc2 := hA.2.1
  unfold maxLen at hc2
  obtain ⟨k, hk⟩ : ∃ k, l.length = k := ⟨_, rfl⟩
  rw [hk] at hn
  have HK := Lib.hid hk
  obtain ⟨n, hnn⟩ : ∃ n, m.length = n := ⟨_, rfl⟩
  rw [hnn] at hn hl hc1 ⊢
  subst hn
  rw [hk]
  have HL := Lib.hid hl
  have HC0 := Lib.hid (show w.drew.cell? ⟨b, o, none⟩ = some (.int .i64 x) from hc0)
  clear hm hA hat hnn hk
  rcases (show (c = 1 ∧ k = 0) ∨ c ≠ 1 by omega) with ⟨hc, h00⟩ | hc
  all_goals
    try subst h00
    simp only [hc, if_true, if_false] at hD
    have HR := Lib.hid (rpush_any [] l l (by simp) none _ 0 _ w.drew (by simp) (by rw [HK.out]; have := HL.out; omega) (row_none _) (hD.below (Below.refl _ _).drew))
    rw [HK.out, List.length_nil] at HR
    try simp only [Nat.sub_self] at HR
    try have h1 : (1 : Int) ≤ (k : Int) + 1 := by omega
    try have h2 : (k : Int) ≤ (c : Int) := by omega
    try have hz : (((k : Int) + 1) == 0) = false := by rw [beq_eq_false_iff_ne]; omega
    clear hD
    try subst hc
    go_enter Try.func11, Try.ntmps11
    go_wp2_with fail
    go_region_held3 (fun w' => w'.cell? ⟨b, o, none⟩ = some (.int .i64 x)) (go_keep) (first
      | (go_at_call 18; with_reducible refine HR.out.mono ?_; rintro e w2 ⟨a2, c2, rfl, hM, hB⟩; have hc3 : w2.cell? ⟨b, o, none⟩ = some (.int .i64 x) := (hB.cell (p := ⟨b, o, none⟩) (by simpa using hb)).trans HC0.out))
    go_wp2_with fail
    go_ret3
    exact ⟨a2, c2, rfl, hM, (Below.refl _ _).drew.trans hB⟩

theorem rfront_none (a : Option Addr) (c : Nat) (w : World) :
    Calls Try.prog 11 #[.slice a 0 c] w fun e w' => e = .returned (.tuple #[.int .i64 0, .slice none 0 0, .bool false]) ∧ Below w.heap.size w w' := by
  go_enter Try.func11, Try.ntmps11
  go_wp2_with fail
  try go_quiet (fail)
  try go_wp2_with fail
  go_ret3
  exact ⟨rfl, by first | exact Below.refl _ _ | exact (Below.refl _ _).drew⟩

theorem rfront_any (x : Int) (l m : List Int) (q : Bool) (hm : (m = x :: l ∧ q = true) ∨ (m = [] ∧ x = 0 ∧ l = [] ∧ q = false)) (a : Option Addr) (c : Nat) (w : World) (hl : m.length ≤ 100000) (hA : RowC w a c m) :
    Calls Try.prog 11 #[.slice a m.length c] w fun e w' => ∃ a' c', e = .returned (.tuple #[.int .i64 x, .slice a' l.length c', .bool q]) ∧ MineC w' w.heap.size a' c' l ∧ Below w.heap.size w w' := by
  rcases hm with ⟨hm, rfl⟩ | ⟨rfl, rfl, rfl, rfl⟩
  · exact rfront_some x l m hm a c w hl hA
  · exact (rfront_none a c w).mono fun e w' ⟨h1, h2⟩ => ⟨none, 0, h1, mine_none _ _, h2⟩


set_option maxHeartbeats 4000000 in
set_option maxRecDepth 1000000 in
theorem rback_some (x : Int) (l m : List Int) (hm : m = l ++ [x]) (a : Option Addr) (c : Nat) (w : World) (hl : m.length ≤ 100000) (hA : RowC w a c m) :
    Calls Try.prog 13 #[.slice a m.length c] w fun e w' => ∃ a' c', e = .returned (.tuple #[.int .i64 x, .slice a' l.length c', .bool true]) ∧ MineC w' w.heap.size a' c' l ∧ Below w.heap.size w w' := by
  have hn : m.length = l.length + 1 := by rw [hm]; simp
  obtain ⟨b, o, rfl, hb, hat⟩ := hA.2.2.2 (by omega)
  have hc0 : w.cell? ⟨b, o + l.length, none⟩ = some (.int .i64 x) := hat l.length x (by rw [hm]; simp)
  have hD := hA.take (a' := some ⟨b, o, none⟩) l.length (by omega) rfl
  rw [hm, List.take_left] at hD
  have hc1 := hA.1
  have hc2 := hA.2.1
  unfold maxLen at hc2
  obtain ⟨k, hk⟩ : ∃ k, l.length = k := ⟨_, rfl⟩
  rw [hk] at hn hc0
  have HK := Lib.hid hk
  obtain ⟨n, hnn⟩ : ∃ n, m.length = n := ⟨_, rfl⟩
  rw [hnn] at hn hl hc1 ⊢
  subst hn
  rw [hk]
  have HL := Lib.hid hl
  have HC0 := Lib.hid (show w.drew.cell? ⟨b, o + k, none⟩ = some (.int .i64 x) from hc0)
  clear hm hA hat hnn hk
  all_goals
    have h3 : (0 : Int) ≤ (k : Int) := by omega
    have h4 : (k : Int) < (k : Int) + 1 := by omega
    have hw1 : IntKind.i64.wrap ((k : Int) + 1 - 1) = (k : Int) := by rw [Int.add_sub_cancel]; exact IntWalk.i64_in _ (by omega)
    have hw3 : IntKind.i64.wrap (k : Int) = (k : Int) := IntWalk.i64_in _ (by omega)
    have HR := Lib.hid (rpush_any [] l l (by simp) none _ 0 _ w.drew (by simp) (by rw [HK.out]; have := HL.out; omega) (row_none _) (hD.below (Below.refl _ _).drew))
    rw [HK.out, List.length_nil] at HR
    try simp only [Nat.sub_self] at HR
    try have h1 : (1 : Int) ≤ (k : Int) + 1 := by omega
    try have h2 : (k : Int) ≤ (c : Int) := by omega
    try have hz : (((k : Int) + 1) == 0) = false := by rw [beq_eq_false_iff_ne]; omega
    clear hD
    try subst hc
    go_enter Try.func13, Try.ntmps13
    go_wp2_with fail
    go_region_held3 (fun w' => w'.cell? ⟨b, o + k, none⟩ = some (.int .i64 x)) (go_keep) (first
      | (go_at_call 18; with_reducible refine HR.out.mono ?_; rintro e w2 ⟨a2, c2, rfl, hM, hB⟩; have hc3 : w2.cell? ⟨b, o + k, none⟩ = some (.int .i64 x) := (hB.cell (p := ⟨b, o + k, none⟩) (by simpa using hb)).trans HC0.out))
    go_wp2_with fail
    go_ret3
    exact ⟨a2, c2, rfl, hM, (Below.refl _ _).drew.trans hB⟩

theorem rback_none (a : Option Addr) (c : Nat) (w : World) :
    Calls Try.prog 13 #[.slice a 0 c] w fun e w' => e = .returned (.tuple #[.int .i64 0, .slice none 0 0, .bool false]) ∧ Below w.heap.size w w' := by
  go_enter Try.func13, Try.ntmps13
  go_wp2_with fail
  try go_quiet (fail)
  try go_wp2_with fail
  go_ret3
  exact ⟨rfl, by first | exact Below.refl _ _ | exact (Below.refl _ _).drew⟩

theorem rback_any (x : Int) (l m : List Int) (q : Bool) (hm : (m = l ++ [x] ∧ q = true) ∨ (m = [] ∧ x = 0 ∧ l = [] ∧ q = false)) (a : Option Addr) (c : Nat) (w : World) (hl : m.length ≤ 100000) (hA : RowC w a c m) :
    Calls Try.prog 13 #[.slice a m.length c] w fun e w' => ∃ a' c', e = .returned (.tuple #[.int .i64 x, .slice a' l.length c', .bool q]) ∧ MineC w' w.heap.size a' c' l ∧ Below w.heap.size w w' := by
  rcases hm with ⟨hm, rfl⟩ | ⟨rfl, rfl, rfl, rfl⟩
  · exact rback_some x l m hm a c w hl hA
  · exact (rback_none a c w).mono fun e w' ⟨h1, h2⟩ => ⟨none, 0, h1, mine_none _ _, h2⟩

end Go.Proofs.Ytooophfmhohnmaa
