/- DuctMany: nothing to be shown. -/
import Derived.Test.YtomiajgedcpjiaaBox
set_option linter.unusedSimpArgs false
set_option linter.unusedVariables false
namespace Go.Proofs.Ytomiajgedcpjiaa
open Go.RowKit Go.Proofs.Ytomiajgedcpjiaa.Kind

set_option maxHeartbeats 4000000 in
set_option maxRecDepth 1000000 in
theorem ductmany_great (z : Int) (cl : Bool) (l k : List Lt) (a b : Option Addr) (c d : Nat) (w : World) (hA : LK.RowC w a c l) (hK : LK.RowC w b d k) (h : (greatB l || greatB k) = true ∨ ((greatB l || greatB k) = false ∧ 60 < k.length) ∨ ((greatB l || greatB k) = false ∧ k.length ≤ 60 ∧ mayB z l.length = false)) :
    Calls Try.prog 5 #[.agg #[.int .i64 z, .slice a l.length c, .bool cl], .slice b k.length d] w fun e w' => e = .returned (.bool true) ∧ Below w.heap.size w w' := by
  have hb := (Below.refl w.heap.size w).alloc (Nat.le_refl _) (.cells #[.int .i64 z, .slice a l.length c, .bool cl] 26)
  have HG := Lib.hid (great_any z cl l k a b c d _ (hA.below hb) (hK.below hb))
  have HB := Lib.hid hb
  have HQ := Lib.hid (laid1 w (.cells #[.int .i64 z, .slice a l.length c, .bool cl] 26))
  clear hA hK hb
  rcases h with h1 | ⟨h1, h2⟩ | ⟨h1, h2, h3⟩
  · rw [h1] at HG
    go_enter Try.func5, Try.ntmps5
    go_wp2_with fail
    with_reducible refine HG.out.mono ?_
    rintro e w1 ⟨rfl, hB⟩
    have HB1 := Lib.hid (HB.out.trans (hB.mono (by simp)))
    clear hB
    go_wp2_with fail
    with_reducible refine (wakes_any w1).mono ?_
    rintro e w2 ⟨rfl, hB⟩
    have HB2 := Lib.hid (HB1.out.trans (hB.mono HB1.out.size))
    clear hB
    go_wp2_with fail
    go_ret
    exact ⟨rfl, HB2.out⟩
  · rw [h1] at HG
    go_enter Try.func5, Try.ntmps5
    go_wp2_with fail
    with_reducible refine HG.out.mono ?_
    rintro e w1 ⟨rfl, hB⟩
    have HB1 := Lib.hid (HB.out.trans (hB.mono (by simp)))
    clear hB
    have h3 : (60 : Int) < (k.length : Int) := by omega
    go_wp2_with fail
    with_reducible refine (wakes_any w1).mono ?_
    rintro e w2 ⟨rfl, hB⟩
    have HB2 := Lib.hid (HB1.out.trans (hB.mono HB1.out.size))
    clear hB
    go_wp2_with fail
    go_ret
    exact ⟨rfl, HB2.out⟩
  · rw [h1] at HG
    have HMy := Lib.hid h3
    clear h3
    go_enter Try.func5, Try.ntmps5
    go_wp2_with fail
    with_reducible refine HG.out.mono ?_
    rintro e w1 ⟨rfl, hB⟩
    have HB1 := Lib.hid (HB.out.trans (hB.mono (by simp)))
    have hq := (hB.block w.heap.size (by simp)).trans HQ.out
    obtain ⟨⟨p0, p1, p2⟩, _⟩ := box3 hq
    have h3 : ¬ (60 : Int) < (k.length : Int) := by omega
    have HMa := Lib.hid (rmay_one z a l.length c cl 26 w1.heap.size _ (laid1 w1 (.cells #[.int .i64 z, .slice a l.length c, .bool cl] 26)))
    rw [HMy.out] at HMa
    clear hB hq
    go_wp2_with fail
    with_reducible refine HMa.out.mono ?_
    rintro e w2 ⟨rfl, hB⟩
    have HB2 := Lib.hid ((HB1.out.alloc HB1.out.size (.cells #[.int .i64 z, .slice a l.length c, .bool cl] 26)).trans (hB.mono (by have := HB1.out.size; simp; omega)))
    clear hB
    go_wp2_with fail
    with_reducible refine (wakes_any w2).mono ?_
    rintro e w3 ⟨rfl, hB⟩
    have HB3 := Lib.hid (HB2.out.trans (hB.mono HB2.out.size))
    clear hB
    go_wp2_with fail
    go_ret
    exact ⟨rfl, HB3.out⟩
end Go.Proofs.Ytomiajgedcpjiaa
