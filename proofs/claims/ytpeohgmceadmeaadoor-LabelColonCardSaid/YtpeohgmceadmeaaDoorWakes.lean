/- What the document says of four texts, and the program does. -/
import Derived.Test.YtpeohgmceadmeaaDoorSplit
namespace Go.Proofs.YtpeohgmceadmeaaDoor
open Go.RowKit

theorem wk1 : P.foldV [87, 105, 101, 110, 46, 69, 120, 97, 109, 112, 108, 101] = ⟨#[119, 105, 101, 110, 46, 101, 120, 97, 109, 112, 108, 101]⟩ ∧ P.foldE [87, 105, 101, 110, 46, 69, 120, 97, 109, 112, 108, 101] = 0 := by decide +kernel
theorem wk2 : P.foldV [97, 46, 46, 98] = ByteArray.empty ∧ P.foldE [97, 46, 46, 98] = 10 := by decide +kernel
theorem wk3 : P.split ⟨#[65, 98, 99, 58, 56, 48]⟩ = (⟨#[97, 98, 99]⟩, 80, 0) := by decide +kernel
theorem wk4 : P.split ⟨#[97, 98, 99, 58, 48, 56, 48]⟩ = (ByteArray.empty, 0, 11) := by decide +kernel

set_option maxHeartbeats 4000000 in
set_option maxRecDepth 1000000 in
theorem wakes_any (w : World) : Calls Tryd.prog 6 #[] w fun e w' => e = .returned (.bool true) ∧ Below w.heap.size w w' := by
  go_enter Tryd.func6, Tryd.ntmps6
  go_wp2_with fail
  refine (fold_any _ _ (by decide)).mono ?_
  rw [wk1.1, wk1.2]
  rintro e w1 ⟨rfl, hb1⟩
  go_wp2_with fail
  refine (fold_any _ _ (by decide)).mono ?_
  rw [wk2.1, wk2.2]
  rintro e w2 ⟨rfl, hb2⟩
  have hb2 := hb1.trans (hb2.mono hb1.size)
  clear hb1
  go_wp2_with fail
  refine (split_any _ _ (by decide)).mono ?_
  rw [wk3]
  rintro e w3 ⟨rfl, hb3⟩
  have hb3 := hb2.trans (hb3.mono hb2.size)
  clear hb2
  go_wp2_with fail
  refine (split_any _ _ (by decide)).mono ?_
  rw [wk4]
  rintro e w4 ⟨rfl, hb4⟩
  have hb4 := hb3.trans (hb4.mono hb3.size)
  clear hb3
  go_wp2_with fail
  go_ret
  exact ⟨rfl, hb4⟩
end Go.Proofs.YtpeohgmceadmeaaDoor
