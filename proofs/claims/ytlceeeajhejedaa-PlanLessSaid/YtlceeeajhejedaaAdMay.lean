/- May: which are addresses. -/
import Derived.Test.YtlceeeajhejedaaFind
set_option linter.unusedSimpArgs false
set_option linter.unusedVariables false
namespace Go.Proofs.Ytlceeeajhejedaa
open Go.RowKit Go.Proofs.Ytlceeeajhejedaa.Kind

def gvA (a : Ad) : List Value := [.int .u16 a.g0, .int .u16 a.g1, .int .u16 a.g2, .int .u16 a.g3, .int .u16 a.g4, .int .u16 a.g5, .int .u16 a.g6, .int .u16 a.g7]
/-- May the groups be those of such a family? -/
def mayG (a : Ad) : Bool := if a.f == 4 then a.g2 == 0 && a.g3 == 0 && a.g4 == 0 && a.g5 == 0 && a.g6 == 0 && a.g7 == 0 else a.f == 6
def mayP (a : Ad) : Bool := mayG a && decide (1 ≤ a.p) && decide (a.p ≤ 65535)
theorem eql_groups (w : World) (g0 g1 g2 g3 g4 g5 g6 g7 k0 k1 k2 k3 k4 k5 k6 k7 : Int) :
    (binOp .eql 29 (.agg #[.int .u16 g0, .int .u16 g1, .int .u16 g2, .int .u16 g3, .int .u16 g4, .int .u16 g5, .int .u16 g6, .int .u16 g7]) (.agg #[.int .u16 k0, .int .u16 k1, .int .u16 k2, .int .u16 k3, .int .u16 k4, .int .u16 k5, .int .u16 k6, .int .u16 k7])).run Try.prog w = .ok (.bool ([g0, g1, g2, g3, g4, g5, g6, g7] == [k0, k1, k2, k3, k4, k5, k6, k7])) w := by
  rw [run_eql_struct, show (10000 : Nat) = 9998 + 2 from rfl, equalIn_groups]
  rfl
theorem guard_groups (op : BinOp) (x y : Operand) (xs ys : Array Value) (w : World) : (eqGuard op 29 x y (.agg xs) (.agg ys)).run Try.prog w = .ok () w := run_eqGuard_agg w op _ x y xs ys (by kernel_rfl)

set_option maxHeartbeats 2000000 in
set_option maxRecDepth 100000 in
theorem mayGroups_any (a : Ad) (w : World) :
    Calls Try.prog 62 #[.int .i8 a.f, .agg (gvA a).toArray] w fun e w' => e = .returned (.bool (mayG a)) ∧ Below w.heap.size w w' := by
  obtain ⟨f, g0, g1, g2, g3, g4, g5, g6, g7, p⟩ := a
  simp only [gvA, mayG]
  have hE := eql_groups
  have hG := guard_groups
  cases h4 : (f == 4)
  · cases h6 : (f == 6)
    · go_enter Try.func62, Try.ntmps62
      go_wp2_with fail
      go_ret
      exact ⟨by simp_all, (Below.refl _ w).alloc (Nat.le_refl _) _⟩
    · go_enter Try.func62, Try.ntmps62
      go_wp2_with fail
      go_ret
      exact ⟨by simp_all, (Below.refl _ w).alloc (Nat.le_refl _) _⟩
  · go_enter Try.func62, Try.ntmps62
    go_wp2_with fail
    go_ret
    exact ⟨by simp_all [Bool.and_assoc], (Below.refl _ w).alloc (Nat.le_refl _) _⟩

theorem all_step (l : List Ad) (k : Nat) (a : Ad) (ha : l[k]? = some a) : (l.drop k).all mayP = (mayP a && (l.drop (k + 1)).all mayP) := by
  obtain ⟨h, e⟩ := List.getElem?_eq_some_iff.1 ha
  rw [List.drop_eq_getElem_cons h, e, List.all_cons]
theorem mayP_eq (a : Ad) : mayP a = (mayG a && !(decide (a.p < 1)) && !(decide (65535 < a.p))) := by
  rw [mayP, Bool.eq_iff_iff]; simp

set_option maxHeartbeats 2000000 in
set_option maxRecDepth 100000 in
theorem may_any (l : List Ad) (m : Nat) (hm : m = l.length) (a0 : Option Addr) (c : Nat) (w : World) (hR : AK.RowC w a0 c l) :
    Calls Try.prog 42 #[.slice a0 m c] w fun e w' => e = .returned (.bool (l.all mayP)) ∧ Below w.heap.size w w' := by
  subst hm
  have hlen : (l.length : Int) ≤ 9223372036854775807 := len_int _ (Nat.le_trans hR.1 hR.2.1)
  have HR := Lib.hid hR
  clear hR
  go_enter Try.func42, Try.ntmps42
  go_wp2_with fail
  go_loopw [7] (fun i wr => ∃ k : Nat, i = .int .i64 k ∧ k ≤ l.length ∧ Below w.heap.size w wr ∧ Hid ((l.drop k).all mayP = l.all mayP)) (fun i _ => l.length - (intOf i).toNat)
  case atStart => exact ⟨0, rfl, by omega, Below.refl _ _, Lib.hid rfl⟩
  case round =>
    obtain ⟨k, rfl, hk, hbw, hall⟩ := hrel
    have hbs := hbw.size
    by_cases hlt : k < l.length
    · obtain ⟨a, ha⟩ : ∃ a, l[k]? = some a := ⟨_, List.getElem?_eq_getElem hlt⟩
      obtain ⟨b, o, rfl, hb, hat⟩ := HR.out.2.2.2 (by omega)
      obtain ⟨⟨c0, c1, c2, c3, c4⟩, c5, c6, c7, c8, c9⟩ := AK.ten (hat.below hbw hb) ha
      have HS := Lib.hid (And.intro (all_step l k a ha) (mayP_eq a))
      clear ha hat
      go_wp2_with fail
      have HC := mayGroups_any a (wr.alloc (.cells a.enc.toArray 31))
      simp only [gvA, Ad.enc] at HC
      with_reducible refine HC.mono ?_
      clear HC
      rintro e w1 ⟨rfl, hb1⟩
      have cp : w1.cell? ⟨wr.heap.size, 9, none⟩ = some (.int .i64 a.p) := (hb1.cell (p := ⟨wr.heap.size, 9, none⟩) (by simp)).trans (by simp [go_sem])
      have hb2 : Below w.heap.size w w1 := (hbw.alloc hbw.size _).trans (hb1.mono (by simp; omega))
      have hs1 := hb1.size
      simp at hs1
      generalize hg : mayG a = G at *
      have HG := Lib.hid hg
      clear hg hb1 c0 c1 c2 c3 c4 c5 c6 c7 c8 c9
      rcases (show (a.p < 1 ∧ ¬ 65535 < a.p) ∨ (¬ a.p < 1 ∧ 65535 < a.p) ∨ (¬ a.p < 1 ∧ ¬ 65535 < a.p) by omega) with ⟨h1, h2⟩ | ⟨h1, h2⟩ | ⟨h1, h2⟩ <;> cases G
      all_goals
        go_wp2_with fail
        first
          | (go_ret
             exact ⟨by rw [← hall.out, HS.out.1, HS.out.2]; simp [HG.out, h1, h2], hb2⟩)
          | (go_roundw
             case rel => exact ⟨k + 1, by go_num, by omega, hb2, Lib.hid (by rw [← hall.out, HS.out.1, HS.out.2]; simp [HG.out, h1, h2])⟩
             case measure => simp [intOf]; omega)
    · obtain rfl : k = l.length := by omega
      go_wp2_with fail
      go_ret
      exact ⟨by rw [← hall.out]; simp, hbw⟩
end Go.Proofs.Ytlceeeajhejedaa
