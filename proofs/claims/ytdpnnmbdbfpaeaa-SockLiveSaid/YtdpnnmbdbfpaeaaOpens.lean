/- Whether a record is the opening that comes next. -/
import Derived.Test.YtdpnnmbdbfpaeaaActs
import Derived.Deep.QuietTactic
import Derived.BigQuiet
set_option linter.unusedSimpArgs false
set_option linter.unusedVariables false
namespace Go.Proofs.Ytdpnnmbdbfpaeaa
open Go.RowKit Go.Proofs.Ytdpnnmbdbfpaeaa.Kind

set_option maxHeartbeats 4000000 in
set_option maxRecDepth 1000000 in
theorem opens_any (S : List Sk) (m : Nk) (p : Nat) (r : Bool) (hr : r = decide (m.sock = (p : Int) ∧ (opsOf S)[p]? = some m.at_)) (a : Option Addr) (c : Nat) (w : World) (hS : S.length ≤ 4000) (hp : p ≤ S.length) (hA : SK.RowC w a c S) :
    Calls Try.prog 21 #[.agg #[.bool m.shut, .int .i64 m.sock, .int .i64 m.at_], .slice a S.length c, .int .i64 p] w fun e w' => e = .returned (.bool r) ∧ Below w.heap.size w w' := by
  obtain ⟨W1, hW1⟩ : ∃ W1, W1 = w.alloc (.cells #[.bool m.shut, .int .i64 m.sock, .int .i64 m.at_] 51) := ⟨_, rfl⟩
  have HB0 := Lib.hid (below1 w (.cells #[.bool m.shut, .int .i64 m.sock, .int .i64 m.at_] 51))
  obtain ⟨⟨_, b1, b2⟩, _⟩ := box3 (laid1 w (.cells #[.bool m.shut, .int .i64 m.sock, .int .i64 m.at_] 51))
  rw [← hW1] at HB0 b1 b2
  rcases (show p = S.length ∨ p < S.length by omega) with rfl | hlt
  · have HH := Lib.hid (fun w => has_any (S.length : Int) S.length a c false (by simp) w)
    obtain rfl : r = false := by
      rw [hr]
      have : (opsOf S)[S.length]? = none := by simp [opsOf]
      rw [this]; simp
    clear hr hA
    go_enter Try.func21, Try.ntmps21
    go_wp2_with fail
    rw [← hW1]
    clear hW1
    go_quiet (first | (go_at_call 20; exact Calls.quiet_of_same (HH.out _)))
    go_wp2_with fail
    go_ret
    exact ⟨rfl, below_drewN HB0.out _⟩
  · obtain ⟨x, hx⟩ : ∃ x, S[p]? = some x := ⟨_, List.getElem?_eq_getElem hlt⟩
    have ho : (opsOf S)[p]? = some x.opened := by simp [opsOf, hx]
    obtain ⟨g, o, rfl, hg, hat⟩ := (hA.below HB0.out).2.2.2 (by omega)
    have z11 := (SK.fourteen hat hx).2.2.2.2.2.1
    have HH := Lib.hid (fun w => has_any (p : Int) S.length (some ⟨g, o, none⟩) c true (by simp; omega) w)
    have hpi : (p : Int) < (S.length : Int) := by omega
    have hp0 : ¬ (p : Int) < 0 := by omega
    rw [ho] at hr
    clear hA hat hx ho
    by_cases h1 : m.sock = (p : Int)
    · have hr' : r = (m.at_ == x.opened) := by
        rw [hr, Bool.eq_iff_iff, decide_eq_true_eq, beq_iff_eq]
        exact ⟨fun h => by have := h.2; injection this with e; exact e.symm, fun h => ⟨h1, by rw [h]⟩⟩
      have HR := Lib.hid hr'
      clear hr hr'
      obtain ⟨ms, mk, mt⟩ := m
      dsimp only at h1 b1 b2 hW1 HB0 HR ⊢
      subst h1
      go_enter Try.func21, Try.ntmps21
      go_wp2_with fail
      rw [← hW1]
      clear hW1
      go_quiet (first | (go_at_call 20; exact Calls.quiet_of_same (HH.out _)))
      go_wp2_with fail
      go_ret
      exact ⟨by rw [HR.out]; rfl, below_drewN HB0.out _⟩
    · have h1b : (m.sock == (p : Int)) = false := beq_eq_false_iff_ne.2 h1
      obtain rfl : r = false := by rw [hr]; simp [h1]
      clear hr
      go_enter Try.func21, Try.ntmps21
      go_wp2_with fail
      rw [← hW1]
      clear hW1
      go_quiet (first | (go_at_call 20; exact Calls.quiet_of_same (HH.out _)))
      go_wp2_with fail
      go_ret
      exact ⟨rfl, below_drewN HB0.out _⟩
end Go.Proofs.Ytdpnnmbdbfpaeaa
