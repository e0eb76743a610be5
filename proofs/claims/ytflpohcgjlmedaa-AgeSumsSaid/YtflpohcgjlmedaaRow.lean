/- Rows of numbers: what is later by all of them. -/
import Derived.Test.YtflpohcgjlmedaaSmall
set_option linter.unusedSimpArgs false
set_option linter.unusedVariables false
namespace Go.Proofs.Ytflpohcgjlmedaa
open Go.RowKit

/-- Numbers that lie in a row. -/
def IntsAt (w : World) (b o : Nat) (l : List Int) : Prop := ∀ j x, l[j]? = some x → w.cell? ⟨b, o + j, none⟩ = some (.int .i64 x)
theorem IntsAt.below {w w' : World} {b o : Nat} {l : List Int} (h : IntsAt w b o l) (hb : Below w.heap.size w w') (hlt : b < w.heap.size) : IntsAt w' b o l := fun j x hx => by
  rw [hb.cell (p := ⟨b, o + j, none⟩) hlt]; exact h j x hx
/-- A row of numbers, wherever it lies; nothing is asked of an empty one's address. -/
def RowI (w : World) (a : Option Addr) (l : List Int) : Prop := 0 < l.length → ∃ b o, a = some ⟨b, o, none⟩ ∧ b < w.heap.size ∧ IntsAt w b o l
theorem RowI.below {w w' : World} {a : Option Addr} {l : List Int} (h : RowI w a l) (hb : Below w.heap.size w w') : RowI w' a l := fun hl => by
  obtain ⟨b, o, h1, h2, h3⟩ := h hl
  exact ⟨b, o, h1, Nat.lt_of_lt_of_le h2 hb.size, h3.below hb h2⟩
/-- A row that a call has just laid. -/
theorem rowI_new (w : World) (t : TypeId) (l : List Int) (c : Array Value) (hc : c = (l.map (Value.int .i64)).toArray) : RowI (w.alloc (.cells c t)) (some ⟨w.heap.size, 0, none⟩) l := by
  subst hc
  refine fun _ => ⟨w.heap.size, 0, rfl, by simp, fun j x hx => ?_⟩
  rw [Nat.zero_add, World.cell?_alloc_new]
  simp [hx]

theorem rowI_at (w : World) (t : TypeId) (l : List Int) (c : Array Value) (g : Nat) (hg : g = w.heap.size) (hc : c = (l.map (Value.int .i64)).toArray) : RowI (w.alloc (.cells c t)) (some ⟨g, 0, none⟩) l := by
  subst hg; exact rowI_new w t l c hc

set_option maxHeartbeats 4000000 in
set_option maxRecDepth 1000000 in
theorem later_any (t : Int) (l : List Int) (a : Option Addr) (c : Nat) (w : World) (hl : l.length ≤ 100000) (hA : RowI w a l) :
    Calls Try.prog 13 #[.int .i64 t, .slice a l.length c] w fun e w' => e = .returned (.int .i64 (P.later t l)) ∧ w' = w := by
  have HA := Lib.hid hA
  clear hA
  go_enter Try.func13, Try.ntmps13
  go_wp2_with fail
  refine (tickOf_any t _).mono ?_
  rintro e w ⟨rfl, rfl⟩
  go_wp2_with fail
  go_loopw [5, 12] (fun u5 i wr => ∃ (k : Nat) (s : Int), i = .int .i64 k ∧ k ≤ l.length ∧ wr = w ∧ u5 = .int .i64 s ∧ 0 ≤ s ∧ s ≤ 1073741824 ∧ Hid ((l.drop k).foldl P.plus s = P.later t l)) (fun _ i _ => l.length - (intOf i).toNat)
  case atStart => exact ⟨0, _, rfl, by omega, rfl, rfl, P.clamp_ge t, P.clamp_le t, Lib.hid rfl⟩
  case round =>
    obtain ⟨k, s, rfl, hk, rfl, rfl, hs0, hs1, HF⟩ := hrel
    by_cases hlt : k < l.length
    · obtain ⟨b, o, rfl, hb, hat⟩ := HA.out (by omega)
      obtain ⟨x, hx⟩ : ∃ x, l[k]? = some x := ⟨_, List.getElem?_eq_getElem hlt⟩
      have hc := hat k x hx
      have HX := Lib.hid hx
      clear hat hx
      go_wp2_with fail
      refine (tickOf_any x _).mono ?_
      rintro e w ⟨rfl, rfl⟩
      go_wp2_with fail
      refine (plus_any s _ _ hs0 hs1 (P.clamp_ge x) (P.clamp_le x)).mono ?_
      rw [show P.plus s (P.clamp x) = P.plus s x by unfold P.plus; rw [P.clamp_clamp]]
      rintro e w ⟨rfl, rfl⟩
      go_wp2_with fail
      go_roundw
      case rel =>
        refine ⟨k + 1, _, by go_num, by omega, by trivial, rfl, P.plus_ge s x, P.plus_le s x, Lib.hid ?_⟩
        rw [← HF.out, P.drop_at l k x HX.out]
        rfl
      case measure => simp [intOf]; omega
    · obtain rfl : k = l.length := by omega
      have h := HF.out
      rw [List.drop_length] at h
      have H2 := Lib.hid (show s = P.later t l from h)
      clear h
      go_wp2_with fail
      go_ret
      exact ⟨ret_i64 H2.out, rfl⟩

set_option maxHeartbeats 4000000 in
set_option maxRecDepth 1000000 in
theorem rlater_any (t : Int) (l : List Int) (a : Option Addr) (c : Nat) (w : World) (hl : l.length ≤ 100000) (hA : RowI w a l) :
    Calls Try.prog 14 #[.int .i64 t, .slice a l.length c] w fun e w' => e = .returned (.int .i64 (P.later t l)) ∧ w' = w := by
  have HA := Lib.hid hA
  clear hA
  go_enter Try.func14, Try.ntmps14
  go_wp2_with fail
  refine (rclamp_any t _).mono ?_
  rintro e w ⟨rfl, rfl⟩
  go_wp2_with fail
  go_loopw [0, 5] (fun u5 i wr => ∃ (k : Nat) (s : Int), i = .int .i64 k ∧ k ≤ l.length ∧ wr = w ∧ u5 = .int .i64 s ∧ 0 ≤ s ∧ s ≤ 1073741824 ∧ Hid ((l.drop k).foldl P.plus s = P.later t l)) (fun _ i _ => l.length - (intOf i).toNat)
  case atStart => exact ⟨0, _, rfl, by omega, rfl, rfl, P.clamp_ge t, P.clamp_le t, Lib.hid rfl⟩
  case round =>
    obtain ⟨k, s, rfl, hk, rfl, rfl, hs0, hs1, HF⟩ := hrel
    by_cases hlt : k < l.length
    · obtain ⟨b, o, rfl, hb, hat⟩ := HA.out (by omega)
      obtain ⟨x, hx⟩ : ∃ x, l[k]? = some x := ⟨_, List.getElem?_eq_getElem hlt⟩
      have hc := hat k x hx
      have HX := Lib.hid hx
      have c0 := P.clamp_ge x
      have c1 := P.clamp_le x
      clear hat hx
      go_wp2_with fail
      refine (rclamp_any x _).mono ?_
      rintro e w ⟨rfl, rfl⟩
      go_wp2_with fail
      refine (rclamp_any _ _).mono ?_
      rw [show P.clamp (s + P.clamp x) = P.plus s x from rfl]
      rintro e w ⟨rfl, rfl⟩
      go_wp2_with fail
      go_roundw
      case rel =>
        refine ⟨k + 1, _, by go_num, by omega, by trivial, rfl, P.plus_ge s x, P.plus_le s x, Lib.hid ?_⟩
        rw [← HF.out, P.drop_at l k x HX.out]
        rfl
      case measure => simp [intOf]; omega
    · obtain rfl : k = l.length := by omega
      have h := HF.out
      rw [List.drop_length] at h
      have H2 := Lib.hid (show s = P.later t l from h)
      clear h
      go_wp2_with fail
      go_ret
      exact ⟨ret_i64 H2.out, rfl⟩

set_option maxHeartbeats 4000000 in
theorem rold_any (s a n : Int) (w : World) : Calls Try.prog 18 #[.int .i64 s, .int .i64 a, .int .i64 n] w fun e w' => e = .returned (.bool (P.old s a n)) ∧ Below w.heap.size w w' := by
  go_enter Try.func18, Try.ntmps18
  go_wp2_with fail
  refine (rclamp_any n _).mono ?_
  rintro e w ⟨rfl, rfl⟩
  go_wp2_with fail
  refine (rlater_any s [a] _ _ _ (by simp) (rowI_new _ _ _ _ rfl)).mono ?_
  rintro e w ⟨rfl, rfl⟩
  rw [P.later_one]
  go_wp2_with fail
  go_ret
  exact ⟨ret_bo (by unfold P.old; simp), (Below.refl _ _).alloc (Nat.le_refl _) _⟩
end Go.Proofs.Ytflpohcgjlmedaa
