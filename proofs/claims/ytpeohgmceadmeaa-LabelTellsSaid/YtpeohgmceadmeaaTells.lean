/- LabelTells: the walk. -/
import Derived.Test.YtpeohgmceadmeaaSame
namespace Go.Proofs.Ytpeohgmceadmeaa
open Go.RowKit

theorem beq_refl_bytes (s : ByteArray) : (s.toList == s.toList) = true := by simp

set_option maxHeartbeats 8000000 in
set_option maxRecDepth 1000000 in
theorem tells_wakes (a b : ByteArray) (w : World) (h : 2000 < a.size ∨ 2000 < b.size) (wa : a.size ≤ maxLen) (wb : b.size ≤ maxLen) :
    Calls Try.prog 3 #[.string a, .string b] w fun e w' => e = .returned (.bool true) ∧ Below w.heap.size w w' := by
  unfold maxLen at wa wb
  by_cases h1 : 2000 < a.size
  all_goals
    have h2 : a.size ≤ 2000 → 2000 < b.size := by omega
    have H2 := Lib.hid h2
    clear h h2
    go_enter Try.func3, Try.ntmps3
  · go_wp2_with fail
    refine (wakes_any _).mono ?_
    rintro e w1 ⟨rfl, hb1⟩
    go_wp2_with fail
    go_ret
    exact ⟨rfl, hb1⟩
  · have h3 := H2.out (by omega)
    go_wp2_with fail
    refine (wakes_any _).mono ?_
    rintro e w1 ⟨rfl, hb1⟩
    go_wp2_with fail
    go_ret
    exact ⟨rfl, hb1⟩

set_option maxHeartbeats 8000000 in
set_option maxRecDepth 1000000 in
theorem tells_small (a b : ByteArray) (w : World) (ha : a.size ≤ 2000) (hb : b.size ≤ 2000) :
    Calls Try.prog 3 #[.string a, .string b] w fun e w' => e = .returned (.bool true) ∧ Below w.heap.size w w' := by
  go_enter Try.func3, Try.ntmps3
  go_wp2_with fail
  refine (fold_any a _ (by omega)).mono ?_
  rintro e w1 ⟨rfl, hb1⟩
  go_wp2_with fail
  refine (rfold_any a _ (by omega)).mono ?_
  rintro e w2 ⟨rfl, hb2⟩
  have hb2 := hb1.trans (hb2.mono hb1.size)
  clear hb1
  go_wp2_with fail
  refine (runes_any a _ (by omega)).mono ?_
  rintro e w3 ⟨rfl, hb3⟩
  have hb3 := hb2.trans (hb3.mono hb2.size)
  clear hb2
  go_wp2_with fail
  refine (rrunes_any a _ (by omega)).mono ?_
  rintro e w4 ⟨rfl, rfl⟩
  go_wp2_with fail
  refine (valid_one a _ _ (by omega) (by simp) (by simp [go_sem])).mono ?_
  rintro e w5 ⟨rfl, hb5⟩
  have hb5 := (hb3.alloc hb3.size _).trans (hb5.mono (by have := hb3.size; simp; omega))
  clear hb3
  go_wp2_with fail
  refine (rValid_one a _ _ (by omega) (by simp [go_sem])).mono ?_
  rintro e w6 ⟨rfl, rfl⟩
  go_wp2_with fail
  refine (valid_two a b _ _ (by omega) (by omega) (by simp) (by simp [go_sem]) (by simp [go_sem])).mono ?_
  rintro e w7 ⟨rfl, hb7⟩
  have hb7 := ((hb5.alloc hb5.size _).alloc (by have := hb5.size; simp; omega) _).trans (hb7.mono (by have := hb5.size; simp; omega))
  clear hb5
  go_wp2_with fail
  refine (rValid_two a b _ _ (by omega) (by omega) (by simp [go_sem]) (by simp [go_sem])).mono ?_
  rintro e w8 ⟨rfl, rfl⟩
  go_wp2_with fail
  refine (same_any a b _ (by omega) (by omega)).mono ?_
  rintro e w9 ⟨rfl, hb9⟩
  have hb9 := (hb7.alloc hb7.size _).trans (hb9.mono (by have := hb7.size; simp; omega))
  clear hb7
  go_wp2_with fail
  refine (rsame_any a b _ (by omega) (by omega)).mono ?_
  rintro e w10 ⟨rfl, hb10⟩
  have hb10 := hb9.trans (hb10.mono hb9.size)
  clear hb9
  go_wp2_with fail
  refine (parts_any a _ (by omega)).mono ?_
  rintro e w11 ⟨v, rfl, ho11, hb11⟩
  have hc11 := hb10.trans (hb11.mono hb10.size)
  have hw10 := hb10.size
  clear hb10
  go_wp2_with fail
  refine (rparts_any a _ (by omega)).mono ?_
  rintro e w12 ⟨v', rfl, ho12, hb12⟩
  have hc12 := hc11.trans (hb12.mono hc11.size)
  have hpl : (P.parts a.data.toList).length ≤ 4001 := by
    have h1 := P.split_length a.data.toList
    have h2 : a.data.toList.length = a.size := by simp
    unfold P.parts
    split
    · omega
    · simp
  have hST : ∀ x, Calls Try.prog 15 #[v, v'] w12 x ↔ Calls Try.prog 15 #[v, v'] w12 x := fun _ => Iff.rfl
  clear hST
  have hsame : Calls Try.prog 15 #[v, v'] w12 fun e w' => e = .returned (.bool true) ∧ ∃ k, w' = w12.drewN k := by
    generalize P.parts a.data.toList = ps at ho11 ho12 hpl
    by_cases hp0 : ps.length = 0
    · obtain ⟨x, c, rfl⟩ := row_form ho11
      obtain ⟨x', c', rfl⟩ := row_form ho12
      rw [hp0]
      exact sameTexts_none _ _ _ _ _
    · obtain ⟨g, c, rfl, hg1, hg2, hg3⟩ := row_cell ho11 (by omega)
      obtain ⟨g', c', rfl, hg1', hg2', hg3'⟩ := row_cell ho12 (by omega)
      exact sameTexts_some ps g g' c c' w12 (by omega) (fun j hj => by rw [hb12.cell (p := ⟨g, j, none⟩) hg2]; exact hg3 j hj) hg3'
  have HST := Lib.hid hsame
  clear hsame ho11 ho12 hb11 hb12 hpl
  go_wp2_with fail
  refine HST.out.mono ?_
  rintro e w13 ⟨rfl, k, rfl⟩
  have hc13 := below_drewN hc12 k
  go_wp2_with fail
  refine (wakes_any _).mono ?_
  rintro e w14 ⟨rfl, hb14⟩
  have hc14 := hc13.trans (hb14.mono hc13.size)
  clear hc13 hc12 hc11
  go_wp2_with fail
  go_ret
  refine ⟨ret_bool ?_, hc14⟩
  simp
end Go.Proofs.Ytpeohgmceadmeaa
namespace Go.Proofs.Ytpeohgmceadmeaa
open Go.RowKit
theorem tells_walk (a b : ByteArray) (w : World) (wa : a.size ≤ maxLen) (wb : b.size ≤ maxLen) :
    Calls Try.prog 3 #[.string a, .string b] w fun e w' => e = .returned (.bool true) ∧ Below w.heap.size w w' := by
  by_cases h : 2000 < a.size ∨ 2000 < b.size
  · exact tells_wakes a b w h wa wb
  · exact tells_small a b w (by omega) (by omega)
end Go.Proofs.Ytpeohgmceadmeaa
