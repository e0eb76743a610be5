/- Whether two names are the same. -/
import Derived.Test.YtpeohgmceadmeaaParts
import Derived.Test.YtpeohgmceadmeaaWakes
namespace Go.Proofs.Ytpeohgmceadmeaa
open Go.RowKit

def P.same (a b : List UInt8) : Bool := P.name a && P.name b && ((P.foldV a).toList == (P.foldV b).toList)
theorem foldE_yes {l : List UInt8} (h : P.name l = true) : P.foldE l = 0 := by rw [P.foldE, h]; rfl
theorem foldE_no {l : List UInt8} (h : P.name l = false) : P.foldE l = 10 := by rw [P.foldE, h]; rfl

set_option maxHeartbeats 4000000 in
set_option maxRecDepth 1000000 in
theorem same_any (a b : ByteArray) (w : World) (ha : a.size ≤ 4000) (hb : b.size ≤ 4000) :
    Calls Try.prog 13 #[.string a, .string b] w fun e w' => e = .returned (.bool (P.same a.data.toList b.data.toList)) ∧ Below w.heap.size w w' := by
  cases hn : P.name a.data.toList && P.name b.data.toList
  all_goals
    have HN := Lib.hid hn
    clear hn
    go_enter Try.func13, Try.ntmps13
    go_wp2_with fail
    refine (valid_two a b w.heap.size _ ha hb (by simp) (by simp [go_sem]) (by simp [go_sem])).mono ?_
    rw [HN.out]
    rintro e w1 ⟨rfl, hb1⟩
    have hb1 : Below w.heap.size w w1 := ((Below.refl _ w).alloc (Nat.le_refl _) _).trans (hb1.mono (by simp))
    go_wp2_with fail
  · go_ret
    exact ⟨by rw [P.same, HN.out]; rfl, hb1⟩
  · refine (fold_any a _ ha).mono ?_
    rintro e w2 ⟨rfl, hb2⟩
    have hb2 := hb1.trans (hb2.mono hb1.size)
    clear hb1
    go_wp2_with fail
    refine (fold_any b _ hb).mono ?_
    rintro e w3 ⟨rfl, hb3⟩
    have hb3 := hb2.trans (hb3.mono hb2.size)
    clear hb2
    go_wp2_with fail
    go_ret
    exact ⟨by rw [P.same, HN.out]; rfl, hb3⟩

set_option maxHeartbeats 4000000 in
set_option maxRecDepth 1000000 in
theorem rsame_any (a b : ByteArray) (w : World) (ha : a.size ≤ 4000) (hb : b.size ≤ 4000) :
    Calls Try.prog 14 #[.string a, .string b] w fun e w' => e = .returned (.bool (P.same a.data.toList b.data.toList)) ∧ Below w.heap.size w w' := by
  cases hn : P.name a.data.toList <;> cases hm : P.name b.data.toList
  all_goals
    have HN := Lib.hid hn
    have HM := Lib.hid hm
    have HS := Lib.hid (show P.same a.data.toList b.data.toList = (P.name a.data.toList && P.name b.data.toList && ((P.foldV a.data.toList).toList == (P.foldV b.data.toList).toList)) from rfl)
    clear hn hm
    go_enter Try.func14, Try.ntmps14
    go_wp2_with fail
    refine (rfold_any a _ ha).mono ?_
    first | rw [foldE_yes HN.out] | rw [foldE_no HN.out]
    rintro e w2 ⟨rfl, hb2⟩
    go_wp2_with fail
    refine (rfold_any b _ hb).mono ?_
    first | rw [foldE_yes HM.out] | rw [foldE_no HM.out]
    rintro e w3 ⟨rfl, hb3⟩
    have hb3 := hb2.trans (hb3.mono hb2.size)
    clear hb2
    go_wp2_with fail
    go_ret
    exact ⟨by rw [HS.out, HN.out, HM.out]; rfl, hb3⟩
end Go.Proofs.Ytpeohgmceadmeaa
