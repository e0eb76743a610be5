/- Rows made of rows: row, Push, the document's own Push. -/
import Derived.Test.YtooophfmhohnmaaRow
set_option linter.unusedSimpArgs false
set_option linter.unusedVariables false
namespace Go.Proofs.Ytooophfmhohnmaa
open Go.RowKit

set_option maxHeartbeats 4000000 in
set_option maxRecDepth 1000000 in
theorem row_any (l k L : List Int) (hL : L = l ++ k) (a b : Option Addr) (c d : Nat) (w : World) (hl : l.length ≤ 100000) (hk : k.length ≤ 100000) (hA : RowC w a c l) (hB : RowC w b d k) :
    Calls Try.prog 24 #[.slice a l.length c, .slice b k.length d] w fun e w' => ∃ a' c', e = .returned (.slice a' L.length c') ∧ MineC w' w.heap.size a' c' L ∧ Below w.heap.size w w' := by
  by_cases h0 : L.length = 0
  · obtain rfl : L = [] := List.length_eq_zero_iff.1 h0
    have h1 := hL.symm
    rw [List.append_eq_nil_iff] at h1
    obtain ⟨rfl, rfl⟩ := h1
    clear hL h0
    rw [List.length_nil]
    go_enter Try.func24, Try.ntmps24
    go_wp2_with fail
    go_ret
    exact ⟨none, 0, rfl, mine_none _ _, Below.refl _ _⟩
  · have hn : L.length = l.length + k.length := by rw [hL]; simp
    have HN := Lib.hid hn
    have HL := Lib.hid hL
    have HA := Lib.hid hA
    have HB := Lib.hid hB
    have hz : ((l.length : Int) + (k.length : Int) == 0) = false := by rw [beq_eq_false_iff_ne]; omega
    clear hL hA hB hn h0
    go_enter Try.func24, Try.ntmps24
    go_upto_region 4 with (at_builtin; refine wpList_append_ints rfl _ _ rfl w.heap.size _ rfl [] (.inr ⟨rfl, _, rfl⟩) a l.length c rfl l rfl HA.out (by simp; omega) (Nat.le_refl _) ?_; intro a1 c1 w1 hD1 hM1 hB1)
    have hs1 := hB1.size
    have HD1 := Lib.hid hD1
    have HB1 := Lib.hid hB1
    have HC := Lib.hid (HB.out.below hB1)
    simp only [List.nil_append] at HD1
    clear hD1 hM1 hB1
    go_upto_region 5 with (at_builtin; refine wpList_append_ints rfl _ _ rfl w.heap.size _ rfl l HD1.out b k.length d rfl k rfl HC.out (by omega) (by omega) ?_; intro a2 c2 w2 hD2 hM2 hB2)
    have HM2 := Lib.hid hM2
    have HB2 := Lib.hid (HB1.out.trans hB2)
    rw [← HL.out] at HM2
    have hc := HM2.out.1
    have hcm := HM2.out.2.1
    rw [HN.out] at hc
    clear hD2 hM2 hB2
    go_wp2_with fail
    go_ret
    exact ⟨a2, l.length + k.length, by rw [HN.out]; rfl, by
      have h := HM2.out.cut (a' := a2) rfl
      rw [HN.out] at h
      exact h, HB2.out⟩

theorem push_any (l k L : List Int) (hL : L = l ++ k) (a b : Option Addr) (c d : Nat) (w : World) (hl : l.length ≤ 100000) (hk : k.length ≤ 100000) (hA : RowC w a c l) (hB : RowC w b d k) :
    Calls Try.prog 17 #[.slice a l.length c, .slice b k.length d] w fun e w' => ∃ a' c', e = .returned (.slice a' L.length c') ∧ MineC w' w.heap.size a' c' L ∧ Below w.heap.size w w' := by
  have HR := Lib.hid (row_any l k L hL a b c d w hl hk hA hB)
  clear hA hB hL
  go_enter Try.func17, Try.ntmps17
  go_wp2_with fail
  refine HR.out.mono ?_
  rintro e w1 ⟨a1, c1, rfl, hM, hB⟩
  go_wp2_with fail
  go_ret
  exact ⟨a1, c1, rfl, hM, hB⟩

set_option maxHeartbeats 4000000 in
set_option maxRecDepth 1000000 in
theorem rpush_any (l k L : List Int) (hL : L = l ++ k) (a b : Option Addr) (c d : Nat) (w : World) (hl : l.length ≤ 100000) (hk : k.length ≤ 100000) (hA : RowC w a c l) (hB : RowC w b d k) :
    Calls Try.prog 18 #[.slice a l.length c, .slice b k.length d] w fun e w' => ∃ a' c', e = .returned (.slice a' L.length c') ∧ MineC w' w.heap.size a' c' L ∧ Below w.heap.size w w' := by
  have hn : L.length = l.length + k.length := by rw [hL]; simp
  have HN := Lib.hid hn
  have HL := Lib.hid hL
  have HA := Lib.hid hA
  have HB := Lib.hid hB
  clear hL hA hB hn
  go_enter Try.func18, Try.ntmps18
  go_upto_region 3 with (at_builtin; refine wpList_append_ints rfl _ _ rfl w.heap.size _ rfl [] (dst_nil _ _) a l.length c rfl l rfl HA.out (by simp; omega) (Nat.le_refl _) ?_; intro a1 c1 w1 hD1 hM1 hB1)
  have hs1 := hB1.size
  have HD1 := Lib.hid hD1
  have HB1 := Lib.hid hB1
  have HC := Lib.hid (HB.out.below hB1)
  simp only [List.nil_append] at HD1
  clear hD1 hM1 hB1
  go_wp2_with (at_builtin; refine wpList_append_ints rfl _ _ rfl w.heap.size _ rfl l HD1.out b k.length d rfl k rfl HC.out (by omega) (by omega) ?_; intro a2 c2 w2 hD2 hM2 hB2)
  have HM2 := Lib.hid hM2
  have HB2 := Lib.hid (HB1.out.trans hB2)
  rw [← HL.out] at HM2
  clear hD2 hM2 hB2
  go_ret
  exact ⟨a2, c2, by rw [HN.out]; rfl, HM2.out, HB2.out⟩
end Go.Proofs.Ytooophfmhohnmaa
