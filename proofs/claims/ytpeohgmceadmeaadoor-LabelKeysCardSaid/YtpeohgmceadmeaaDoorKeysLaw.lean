/- LabelKeys: the walk. -/
import Derived.Test.YtpeohgmceadmeaaDoorRSplit
import Derived.Test.YtpeohgmceadmeaaDoorWakes
set_option linter.unusedSimpArgs false
set_option linter.unusedVariables false
namespace Go.Proofs.YtpeohgmceadmeaaDoor
open Go.RowKit

set_option maxHeartbeats 8000000 in
set_option maxRecDepth 1000000 in
theorem keys_walk (a b : ByteArray) (n : Int) (w : World) (wa : a.size ≤ maxLen) (wb : b.size ≤ maxLen) (hn : -9223372036854775808 ≤ n) (hn' : n ≤ 9223372036854775807) (ht : Tab w) :
    Calls Tryd.prog 3 #[.string a, .string b, .int .i64 n] w fun e w' => e = .returned (.bool true) ∧ Below w.heap.size w w' := by
  unfold maxLen at wa wb
  by_cases h : 2000 < a.size ∨ 2000 < b.size
  · by_cases h1 : 2000 < a.size
    all_goals
      have h2 : a.size ≤ 2000 → 2000 < b.size := by omega
      have H2 := Lib.hid h2
      clear h h2
      go_enter Tryd.func3, Tryd.ntmps3
    · go_wp2_with fail
      refine (wakes_any _).mono ?_
      rintro e w1 ⟨rfl, hb1⟩
      go_wp2_with fail
      go_ret
      exact ⟨rfl, hb1⟩
    · have h3 := H2.out (by omega)
      go_wp2_with fail
      refine (wakes_any _).mono ?_
      rintro e w1 ⟨rfl, hb1⟩
      go_wp2_with fail
      go_ret
      exact ⟨rfl, hb1⟩
  · have ha : a.size ≤ 2000 := by omega
    have hb : b.size ≤ 2000 := by omega
    clear h wa wb
    go_enter Tryd.func3, Tryd.ntmps3
    go_wp2_with fail
    have HC := split_any a w (by omega)
    with_reducible refine HC.mono ?_
    clear HC
    rintro e w1 ⟨rfl, hb1⟩
    go_wp2_with fail
    have HC := rsplit_any a w1 (by omega)
    with_reducible refine HC.mono ?_
    clear HC
    rintro e w2 ⟨rfl, hb2⟩
    have hb2 := hb1.trans (hb2.mono hb1.size)
    clear hb1
    go_wp2_with fail
    have HC := join_any b n w2 (by omega) hn hn' (ht.below hb2)
    with_reducible refine HC.mono ?_
    clear HC
    rintro e w3 ⟨rfl, hb3⟩
    have hb3 := hb2.trans (hb3.mono hb2.size)
    clear hb2
    go_wp2_with fail
    have HC := rjoin_any b n w3 (by omega) hn hn'
    with_reducible refine HC.mono ?_
    clear HC
    rintro e w4 ⟨rfl, hb4⟩
    have hb4 := hb3.trans (hb4.mono hb3.size)
    clear hb3
    go_wp2_with fail
    have HC := wakes_any w4
    with_reducible refine HC.mono ?_
    clear HC
    rintro e w5 ⟨rfl, hb5⟩
    have hb5 := hb4.trans (hb5.mono hb4.size)
    clear hb4
    go_wp2_with fail
    go_ret
    exact ⟨rfl, hb5⟩
end Go.Proofs.YtpeohgmceadmeaaDoor
