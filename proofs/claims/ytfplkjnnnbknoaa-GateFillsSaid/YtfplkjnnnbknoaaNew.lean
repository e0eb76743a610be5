/- Tokens and gates that are new. -/
import Derived.Test.YtfplkjnnnbknoaaTops
import Derived.Test.YtfplkjnnnbknoaaMany
set_option linter.unusedSimpArgs false
set_option linter.unusedVariables false
namespace Go.Proofs.Ytfplkjnnnbknoaa
open Go.RowKit Go.Proofs.Ytfplkjnnnbknoaa.Kind

set_option maxHeartbeats 4000000 in
set_option maxRecDepth 1000000 in
theorem new_ok (cap : Int) (hm : mayB cap 0 = true) (w : World) :
    Calls Try.prog 30 #[.int .i64 cap, .slice none 0 0] w fun e w' => ∃ a' c', e = .returned (.tuple #[.agg #[.int .i64 cap, .slice a' 0 c', .bool false], .int .i64 0]) ∧ LK.Loose w' w.heap.size a' c' [] ∧ Below w.heap.size w w' := by
  have HM := Lib.hid hm
  clear hm
  have HAp := Lib.hid (fun w => apart_any cap [] false none 0 w (by simp) (row_none w))
  rw [List.length_nil] at HAp
  go_enter Try.func30, Try.ntmps30
  go_wp2_with fail
  have HMa := Lib.hid (may_one cap none 0 0 false 24 (w.heap.size + 1 + 1) _ (laid3 w (.cells #[.int .i64 0, .slice none 0 0, .bool false] 24) (.cells #[.int .i64 cap, .slice none 0 0, .bool false] 24) (.cells #[.int .i64 cap, .slice none 0 0, .bool false] 24)).2.2)
  rw [HM.out] at HMa
  with_reducible refine HMa.out.mono ?_
  rintro e w1 ⟨rfl, hB⟩
  have hB : Below (w.heap.size + 3) _ w1 := hB.mono (by simp)
  have HB1 := Lib.hid ((below3 w _ _ _).trans (hB.mono (by omega)))
  have hQ := (hB.block _ (by omega)).trans (laid3 w _ _ _).1
  have HQ := Lib.hid hQ
  have hP := (hB.block _ (by omega)).trans (laid3 w _ _ _).2.1
  obtain ⟨⟨p0, p1, p2⟩, p3, p4, p5⟩ := box3 hP
  have hs1 := hB.size
  simp only [World.size_alloc] at hs1
  clear hB hQ hP HMa
  go_wp2_with fail
  with_reducible refine (HAp.out w1).mono ?_
  rintro e w2 ⟨a1, c1, rfl, hO, hB⟩
  have HF := Lib.hid (loose_mono hO.loose (b2 := w.heap.size + 1) (by omega))
  have HB2 := Lib.hid (HB1.out.trans (hB.mono (by omega)))
  have hQ2 := (hB.block _ (by omega)).trans HQ.out
  have HQ2 := Lib.hid hQ2
  obtain ⟨⟨q0, q1, q2⟩, q3, q4, q5⟩ := box3 hQ2
  clear hO hB hQ2 HQ
  go_wp2_with fail
  change bodyPost _ _ _ _ _ (set3 w2 w.heap.size (.int .i64 cap) (.slice a1 0 c1) (.bool false))
  refine bodyPost_ret (res_cell_tmp rfl _ _ _ w.heap.size rfl _ (load3 (set3_at HQ2.out _ _ _))) rfl ?_
  exact ⟨a1, c1, rfl, loose_mono (set3_loose HF.out (by omega) _ _ _) (by omega), set3_below HB2.out (by omega) _ _ _⟩

set_option maxHeartbeats 4000000 in
set_option maxRecDepth 1000000 in
theorem new_bad (cap : Int) (hm : mayB cap 0 = false) (w : World) :
    Calls Try.prog 30 #[.int .i64 cap, .slice none 0 0] w fun e w' => e = .returned (.tuple #[.agg #[.int .i64 0, .slice none 0 0, .bool false], .int .i64 2]) ∧ Below w.heap.size w w' := by
  have HM := Lib.hid hm
  clear hm
  go_enter Try.func30, Try.ntmps30
  go_wp2_with fail
  have HMa := Lib.hid (may_one cap none 0 0 false 24 (w.heap.size + 1 + 1) _ (laid3 w (.cells #[.int .i64 0, .slice none 0 0, .bool false] 24) (.cells #[.int .i64 cap, .slice none 0 0, .bool false] 24) (.cells #[.int .i64 cap, .slice none 0 0, .bool false] 24)).2.2)
  rw [HM.out] at HMa
  with_reducible refine HMa.out.mono ?_
  rintro e w1 ⟨rfl, hB⟩
  have hB : Below (w.heap.size + 3) _ w1 := hB.mono (by simp)
  have HB1 := Lib.hid ((below3 w _ _ _).trans (hB.mono (by omega)))
  have hQ := (hB.block _ (by omega)).trans (laid3 w _ _ _).1
  have HQ := Lib.hid hQ
  obtain ⟨⟨p0, p1, p2⟩, p3, p4, p5⟩ := box3 hQ
  clear hB hQ HMa
  go_wp2_with fail
  change bodyPost _ _ _ _ _ (set3 w1 w.heap.size (.int .i64 0) (.slice none 0 0) (.bool false))
  refine bodyPost_ret (res_cell_tmp rfl _ _ _ w.heap.size rfl _ (load3 (set3_at HQ.out _ _ _))) rfl ?_
  exact ⟨rfl, set3_below HB1.out (by omega) _ _ _⟩

def GateR (n er cap : Int) : Prop := (n < 1 ∧ er = 2 ∧ cap = 0) ∨ (64 < n ∧ er = 2 ∧ cap = 0) ∨ (1 ≤ n ∧ n ≤ 64 ∧ er = 0 ∧ cap = n)

set_option maxHeartbeats 4000000 in
set_option maxRecDepth 1000000 in
theorem gate_any (n er cap : Int) (hR : GateR n er cap) (w : World) :
    Calls Try.prog 13 #[.int .i64 n] w fun e w' => ∃ a' c', e = .returned (.tuple #[.agg #[.int .i64 cap, .slice a' 0 c', .bool false], .int .i64 er]) ∧ LK.Loose w' w.heap.size a' c' [] ∧ Below w.heap.size w w' := by
  have HB0 := Lib.hid (below1 w (.cells #[.int .i64 0, .slice none 0 0, .bool false] 24))
  have HQ0 := Lib.hid (laid1 w (.cells #[.int .i64 0, .slice none 0 0, .bool false] 24))
  rcases hR with ⟨h1, rfl, rfl⟩ | ⟨h1, rfl, rfl⟩ | ⟨h1, h2, rfl, rfl⟩
  · go_enter Try.func13, Try.ntmps13
    go_wp2_with fail
    refine bodyPost_ret (res_cell_tmp rfl _ _ _ w.heap.size rfl _ (load3 HQ0.out)) rfl ?_
    exact ⟨none, 0, rfl, loose_nil _ _, HB0.out⟩
  · have HN := Lib.hid (new_bad n (by simp [mayB]; omega) (w.alloc (.cells #[.int .i64 0, .slice none 0 0, .bool false] 24)))
    have h3 : ¬ n < 1 := by omega
    go_enter Try.func13, Try.ntmps13
    go_wp2_with fail
    with_reducible refine HN.out.mono ?_
    rintro e w1 ⟨rfl, hB⟩
    have hQ := (hB.block w.heap.size (by simp)).trans HQ0.out
    have HQ := Lib.hid hQ
    obtain ⟨⟨p0, p1, p2⟩, p3, p4, p5⟩ := box3 hQ
    have HB := Lib.hid (HB0.out.trans (hB.mono (by simp)))
    clear hQ hB HN
    go_wp2_with fail
    change bodyPost _ _ _ _ _ (set3 w1 w.heap.size (.int .i64 0) (.slice none 0 0) (.bool false))
    refine bodyPost_ret (res_cell_tmp rfl _ _ _ w.heap.size rfl _ (load3 (set3_at HQ.out _ _ _))) rfl ?_
    exact ⟨none, 0, rfl, loose_nil _ _, set3_below HB.out (Nat.le_refl _) _ _ _⟩
  · have HN := Lib.hid (new_ok cap (by simp [mayB]; omega) (w.alloc (.cells #[.int .i64 0, .slice none 0 0, .bool false] 24)))
    have h3 : ¬ cap < 1 := by omega
    go_enter Try.func13, Try.ntmps13
    go_wp2_with fail
    with_reducible refine HN.out.mono ?_
    rintro e w1 ⟨a, c, rfl, hL, hB⟩
    have hQ := (hB.block w.heap.size (by simp)).trans HQ0.out
    have HQ := Lib.hid hQ
    obtain ⟨⟨p0, p1, p2⟩, p3, p4, p5⟩ := box3 hQ
    have HB := Lib.hid (HB0.out.trans (hB.mono (by simp)))
    have HL := Lib.hid (loose_mono hL (b2 := w.heap.size + 1) (by simp))
    clear hQ hB hL HN
    go_wp2_with fail
    change bodyPost _ _ _ _ _ (set3 w1 w.heap.size (.int .i64 cap) (.slice a 0 c) (.bool false))
    refine bodyPost_ret (res_cell_tmp rfl _ _ _ w.heap.size rfl _ (load3 (set3_at HQ.out _ _ _))) rfl ?_
    exact ⟨a, c, rfl, loose_mono (set3_loose HL.out (Nat.lt_succ_self _) _ _ _) (by omega), set3_below HB.out (Nat.le_refl _) _ _ _⟩

set_option maxHeartbeats 4000000 in
set_option maxRecDepth 1000000 in
theorem token_any (w : World) :
    Calls Try.prog 25 #[] w fun e w' => ∃ a' c', e = .returned (.agg #[.int .i64 0, .slice a' 0 c', .bool false]) ∧ LK.Loose w' w.heap.size a' c' [] ∧ Below w.heap.size w w' := by
  have HB0 := Lib.hid (below1 w (.cells #[.int .i64 0, .slice none 0 0, .bool false] 24))
  have HQ0 := Lib.hid (laid1 w (.cells #[.int .i64 0, .slice none 0 0, .bool false] 24))
  have HN := Lib.hid (new_ok 0 (by decide) (w.alloc (.cells #[.int .i64 0, .slice none 0 0, .bool false] 24)))
  go_enter Try.func25, Try.ntmps25
  go_wp2_with fail
  with_reducible refine HN.out.mono ?_
  rintro e w1 ⟨a, c, rfl, hL, hB⟩
  have hs := hB.size
  simp only [World.size_alloc] at hs
  have hb1 := below1 w1 (.cells #[.int .i64 0, .slice a 0 c, .bool false] 24)
  have hQ := (hb1.block _ (by omega)).trans ((hB.block w.heap.size (by simp)).trans HQ0.out)
  have HQ := Lib.hid hQ
  obtain ⟨⟨p0, p1, p2⟩, p3, p4, p5⟩ := box3 hQ
  have HB := Lib.hid (HB0.out.trans ((hB.mono (by simp)).trans (hb1.mono (by omega))))
  have HL := Lib.hid (loose_mono (hL.below hb1) (b2 := w.heap.size + 1) (by simp))
  clear hQ hB hL HN hb1
  go_wp2_with fail
  change bodyPost _ _ _ _ _ (set3 (w1.alloc (.cells #[.int .i64 0, .slice a 0 c, .bool false] 24)) w.heap.size (.int .i64 0) (.slice a 0 c) (.bool false))
  refine bodyPost_ret (res_cell rfl _ _ _ w.heap.size rfl _ (load3 (set3_at HQ.out _ _ _))) rfl ?_
  exact ⟨a, c, rfl, loose_mono (set3_loose HL.out (Nat.lt_succ_self _) _ _ _) (by omega), set3_below HB.out (Nat.le_refl _) _ _ _⟩
end Go.Proofs.Ytfplkjnnnbknoaa
