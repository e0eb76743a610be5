/- The document's own: letters too great; may a duct be; the same ducts. -/
import Derived.Test.YtomiajgedcpjiaaTakeB
set_option linter.unusedSimpArgs false
set_option linter.unusedVariables false
namespace Go.Proofs.Ytomiajgedcpjiaa
open Go.RowKit Go.Proofs.Ytomiajgedcpjiaa.Kind

theorem drop_at {α : Type} (l : List α) (k : Nat) (x : α) (h : l[k]? = some x) : l.drop k = x :: l.drop (k + 1) := by
  obtain ⟨h1, h2⟩ := List.getElem?_eq_some_iff.1 h
  rw [List.drop_eq_getElem_cons h1, h2]
def greatB (l : List Lt) : Bool := (l.take 101).any (fun x => decide (2000 < x.text.size)) || decide (100 < l.length)

set_option maxHeartbeats 4000000 in
set_option maxRecDepth 1000000 in
theorem rgreat_any (l : List Lt) (a : Option Addr) (c : Nat) (w : World) (hA : LK.RowC w a c l) :
    Calls Try.prog 25 #[.slice a l.length c] w fun e w' => e = .returned (.bool (greatB l)) ∧ w' = w := by
  have hl1 := hA.1
  have hl2 := hA.2.1
  unfold maxLen at hl2
  have HA := Lib.hid hA
  clear hA
  go_enter Try.func25, Try.ntmps25
  go_wp2_with fail
  go_loopw [2, 3] (fun u2 u3 wr => ∃ k : Nat, u3 = .int .i64 k ∧ k ≤ l.length ∧ k ≤ 101 ∧ wr = w ∧ u2 = .bool false ∧ Hid (((l.take 101).drop k).any (fun x => decide (2000 < x.text.size)) = (l.take 101).any (fun x => decide (2000 < x.text.size)))) (fun _ u _ => l.length - (intOf u).toNat)
  case atStart => exact ⟨0, rfl, by omega, by omega, rfl, rfl, Lib.hid rfl⟩
  case round =>
    obtain ⟨k, rfl, hk, hk2, rfl, rfl, hF⟩ := hrel
    have HF := Lib.hid hF.out
    clear hF
    by_cases hlt : k < l.length
    · by_cases hlt2 : k ≤ 100
      · obtain ⟨b, o, rfl, hb, hat⟩ := HA.out.2.2.2 (by omega)
        obtain ⟨x, hx⟩ : ∃ x, l[k]? = some x := ⟨_, List.getElem?_eq_getElem hlt⟩
        obtain ⟨z0, z1, z2, z3, z4, z5⟩ := LK.six hat hx
        have HX := Lib.hid (drop_at (l.take 101) k x (by rw [List.getElem?_take, if_pos (by omega), hx]))
        have hlb : k < l.length := hlt
        clear hat hx
        by_cases hg : 2000 < x.text.size
        · have HR := Lib.hid (show greatB l = true by unfold greatB; rw [← HF.out, HX.out, List.any_cons]; simp [hg])
          go_wp2_with fail
          go_ret
          exact ⟨by rw [HR.out]; rfl, rfl⟩
        · have HR := Lib.hid (show ((l.take 101).drop (k + 1)).any (fun x => decide (2000 < x.text.size)) = (l.take 101).any (fun x => decide (2000 < x.text.size)) by rw [← HF.out, HX.out, List.any_cons]; simp [hg])
          go_wp2_with fail
          go_roundw
          case rel => exact ⟨k + 1, by go_num, by omega, by omega, by trivial, by trivial, HR⟩
          case measure => simp [intOf]; omega
      · have HR := Lib.hid (show greatB l = true by unfold greatB; simp; right; omega)
        have h3 : decide (100 < l.length) = true := by simp; omega
        go_wp2_with fail
        go_ret
        exact ⟨by rw [HR.out]; simp; try omega, rfl⟩
    · obtain rfl : k = l.length := by omega
      have HR := Lib.hid (show greatB l = decide ((100 : Int) < (l.length : Int)) by unfold greatB; rw [← HF.out, List.drop_eq_nil_of_le (by simp; omega)]; simp; omega)
      go_wp2_with fail
      go_ret
      exact ⟨by rw [HR.out]; rfl, rfl⟩

set_option maxHeartbeats 4000000 in
set_option maxRecDepth 1000000 in
theorem rmay_one (cap : Int) (a : Option Addr) (n c : Nat) (cl : Bool) (t : TypeId) (g : Nat) (w : World) (h : w.heap[g]? = some (.cells #[.int .i64 cap, .slice a n c, .bool cl] t (0, 0))) :
    Calls Try.prog 22 #[.slice (some ⟨g, 0, none⟩) 1 1] w fun e w' => e = .returned (.bool (mayB cap n)) ∧ Below w.heap.size w w' := by
  obtain ⟨⟨c0, c1, c2⟩, _⟩ := box3 h
  clear h
  go_enter Try.func22, Try.ntmps22
  go_wp2_with fail
  go_loopw [2, 3] (fun u2 u3 wr => ∃ k q : Nat, u3 = .int .i64 k ∧ k ≤ 1 ∧ u2 = .bool false ∧ wr = w.drewN q ∧ Hid (k = 1 → mayB cap n = true)) (fun _ u _ => 1 - (intOf u).toNat)
  case atStart => exact ⟨0, 0, rfl, by omega, rfl, rfl, Lib.hid (by intro h; cases h)⟩
  case round =>
    obtain ⟨k, q, rfl, hk, rfl, rfl, hF⟩ := hrel
    have HF := Lib.hid hF.out
    clear hF
    rcases (show k = 0 ∨ k = 1 by omega) with rfl | rfl
    · clear HF
      rcases (show cap < 0 ∨ (0 ≤ cap ∧ 64 < cap) ∨ (0 ≤ cap ∧ cap ≤ 64 ∧ cap < (n : Int)) ∨ (0 ≤ cap ∧ cap ≤ 64 ∧ (n : Int) ≤ cap) by omega) with h1 | ⟨h1, h2⟩ | ⟨h1, h2, h3⟩ | ⟨h1, h2, h3⟩
      · have HR := Lib.hid (show mayB cap n = false by simp [mayB]; omega)
        have g1 : decide (cap < 0) = true := by simp [h1]
        go_wp2_with fail
        go_quiet (fail)
        go_wp2_with fail
        go_ret
        exact ⟨by rw [HR.out]; rfl, by first | exact below_drewN (below_drewN (Below.refl _ _) _) _ | exact below_drewN (Below.refl _ _) _⟩
      · have HR := Lib.hid (show mayB cap n = false by simp [mayB]; omega)
        have g1 : decide (cap < 0) = false := by simp; omega
        have g2 : decide (64 < cap) = true := by simp; omega
        go_wp2_with fail
        go_quiet (fail)
        go_wp2_with fail
        go_ret
        exact ⟨by rw [HR.out]; rfl, by first | exact below_drewN (below_drewN (Below.refl _ _) _) _ | exact below_drewN (Below.refl _ _) _⟩
      · have HR := Lib.hid (show mayB cap n = false by simp [mayB]; omega)
        have g1 : decide (cap < 0) = false := by simp; omega
        have g2 : decide (64 < cap) = false := by simp; omega
        go_wp2_with fail
        go_quiet (fail)
        go_wp2_with fail
        go_ret
        exact ⟨by rw [HR.out]; rfl, by first | exact below_drewN (below_drewN (Below.refl _ _) _) _ | exact below_drewN (Below.refl _ _) _⟩
      · have HR := Lib.hid (show mayB cap n = true by simp [mayB]; omega)
        have g1 : decide (cap < 0) = false := by simp; omega
        have g2 : decide (64 < cap) = false := by simp; omega
        go_wp2_with fail
        go_quiet (fail)
        go_wp2_with fail
        go_roundw
        case rel => exact ⟨1, _, by go_num, by omega, by trivial, rfl, Lib.hid (fun _ => HR.out)⟩
        case measure => simp [intOf]
    · have HR := Lib.hid (HF.out rfl)
      go_wp2_with fail
      go_ret
      exact ⟨by rw [HR.out]; rfl, by first | exact below_drewN (below_drewN (Below.refl _ _) _) _ | exact below_drewN (Below.refl _ _) _⟩

theorem neq_self (x : Lt) (W : World) : (binOp .neq 32 (.agg #[.int .i8 x.kind, .int .i64 x.fr, .int .i64 x.num, .int .i64 x.sock, .string x.text, .int .i64 x.e]) (.agg #[.int .i8 x.kind, .int .i64 x.fr, .int .i64 x.num, .int .i64 x.sock, .string x.text, .int .i64 x.e])).run Try.prog W = .ok (.bool false) W := by
  have h := neq_letter W x x
  simp only [Lt.v] at h
  rw [h]
  simp

set_option maxHeartbeats 4000000 in
set_option maxRecDepth 1000000 in
/-- The document's look at two ducts, where they are alike. -/
theorem rsame_eq (cap : Int) (cl : Bool) (l : List Lt) (a b : Option Addr) (c d : Nat) (w : World) (hl : l.length ≤ 100000) (hA : LK.RowC w a c l) (hB : LK.RowC w b d l) :
    Calls Try.prog 23 #[.agg #[.int .i64 cap, .slice a l.length c, .bool cl], .agg #[.int .i64 cap, .slice b l.length d, .bool cl]] w fun e w' => e = .returned (.bool true) ∧ Below w.heap.size w w' := by
  have hb2 := ((Below.refl w.heap.size w).alloc (Nat.le_refl _) (.cells #[.int .i64 cap, .slice a l.length c, .bool cl] 26)).alloc (by simp) (.cells #[.int .i64 cap, .slice b l.length d, .bool cl] 26)
  have HA := Lib.hid (hA.below hb2)
  have HB := Lib.hid (hB.below hb2)
  have HW := Lib.hid hb2
  clear hA hB hb2
  cases cl
  all_goals
    go_enter Try.func23, Try.ntmps23
    go_wp2_with fail
    go_loopw [5] (fun i wr => ∃ k q : Nat, k ≤ l.length ∧ i = .int .i64 k ∧ wr = ((w.alloc (.cells #[.int .i64 cap, .slice a l.length c, .bool _] 26)).alloc (.cells #[.int .i64 cap, .slice b l.length d, .bool _] 26)).drewN q) (fun i _ => l.length - (intOf i).toNat)
    case atStart => exact ⟨0, 0, by omega, rfl, rfl⟩
    case round =>
      obtain ⟨k, q, hk, rfl, rfl⟩ := hrel
      by_cases hlt : k < l.length
      · obtain ⟨b1, o1, rfl, hb1, hat1⟩ := HA.out.2.2.2 (by omega)
        obtain ⟨b2, o2, rfl, hb2, hat2⟩ := HB.out.2.2.2 (by omega)
        obtain ⟨x, hx⟩ : ∃ x, l[k]? = some x := ⟨_, List.getElem?_eq_getElem hlt⟩
        obtain ⟨c0, c1, c2, c3, c4, c5⟩ := LK.six hat1 hx
        obtain ⟨d0, d1, d2, d3, d4, d5⟩ := LK.six hat2 hx
        have hnq := neq_self x
        have hgd := guard_letter
        clear hx hat1 hat2
        go_wp2_with fail
        go_quiet (fail)
        go_wp2_with fail
        go_roundw
        case rel => exact ⟨k + 1, _, by omega, by go_num, rfl⟩
        case measure => simp [intOf]; omega
      · obtain rfl : k = l.length := by omega
        go_wp2_with fail
        go_ret
        exact ⟨rfl, below_drewN HW.out q⟩
end Go.Proofs.Ytomiajgedcpjiaa
