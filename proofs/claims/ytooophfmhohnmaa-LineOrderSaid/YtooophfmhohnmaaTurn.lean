/- Rows that are turned; the document's own. -/
import Derived.Test.YtooophfmhohnmaaPush
import Derived.Test.YtooophfmhohnmaaRevShelf
import Derived.Lib.OwnBridge
set_option linter.unusedSimpArgs false
set_option linter.unusedVariables false
namespace Go.Proofs.Ytooophfmhohnmaa
open Go.RowKit
open Go.Sort (Holds putRow mapBlock onCells putCells)

theorem MineC.holds {w : World} {base : Nat} {a : Option Addr} {c : Nat} {l : List Int} (h : MineC w base a c l) (hl : 0 < l.length) : ∃ g, a = some ⟨g, 0, none⟩ ∧ base ≤ g ∧ g < w.heap.size ∧ Holds (Value.int .i64) w g 0 l.toArray := by
  obtain ⟨h1, h2, h3, h4⟩ := h
  obtain ⟨g, cur, t, rfl, hb, hg, hs, ht⟩ := h4 hl
  refine ⟨g, rfl, hb, lt_heap hg, fun j hj => ?_⟩
  have hj' : j < l.length := by simpa using hj
  refine ⟨?_, by simp [World.frozen?, hg]⟩
  have h := cells_at hg hs ht j l[j] (List.getElem?_eq_getElem hj')
  rw [h]
  simp [getElem!_pos, hj']
theorem MineC.put {w : World} {base g c q : Nat} {l ys : List Int} (h : MineC w base (some ⟨g, 0, none⟩) c l) (hy : ys.length = l.length) : MineC (putRow (Value.int .i64) (Sort.ahead w q) g 0 ys.toArray) base (some ⟨g, 0, none⟩) c ys := by
  obtain ⟨h1, h2, h3, h4⟩ := h
  refine ⟨by omega, h2, h3, fun hl => ?_⟩
  obtain ⟨g', cur, t, e, hb, hg, hs, ht⟩ := h4 (by omega)
  injection e with e
  injection e with e
  subst e
  refine ⟨g, putCells (Value.int .i64) 0 ys.toArray cur, t, rfl, hb, ?_, by simpa [putCells, hy] using hs, ?_⟩
  · simp [putRow, mapBlock, Sort.ahead, Array.getElem?_modify, hg, onCells]
  · apply List.ext_getElem?
    intro j
    rw [List.getElem?_take, P.ints, List.getElem?_map, Array.getElem?_toList]
    by_cases hj : j < ys.length
    · have hjc : j < cur.size := by omega
      simp only [if_pos hj, putCells, Array.getElem?_mapIdx, Array.getElem?_eq_getElem hjc, Option.map_some]
      rw [if_pos (by simp; omega), List.getElem?_eq_getElem (by omega)]
      simp [getElem!_pos, hj]
    · simp [hj]

set_option maxHeartbeats 4000000 in
set_option maxRecDepth 1000000 in
theorem turned_any (l L : List Int) (hL : L = l.reverse) (a : Option Addr) (c : Nat) (w : World) (hl : l.length ≤ 100000) (hA : RowC w a c l) :
    Calls Try.prog 21 #[.slice a l.length c] w fun e w' => ∃ a' c', e = .returned (.slice a' L.length c') ∧ MineC w' w.heap.size a' c' L ∧ Below w.heap.size w w' := by
  have HN := Lib.hid (show L.length = l.length by rw [hL]; simp)
  have HR := Lib.hid (row_any l [] l (by simp) a none c 0 w hl (by simp) hA (row_none _))
  have HL := Lib.hid hL
  rw [List.length_nil] at HR
  clear hA hL
  by_cases h0 : l.length = 0
  · obtain rfl : l = [] := List.length_eq_zero_iff.1 h0
    have hL := HL.out
    rw [List.reverse_nil] at hL
    subst hL
    go_enter Try.func21, Try.ntmps21
    go_wp2_with fail
    refine HR.out.mono ?_
    rintro e w1 ⟨a1, c1, rfl, hM, hB⟩
    have HV := Lib.hid (AnyE.slices_Reverse_empty Try.revI a1 c1 w1)
    go_wp2_with fail
    refine HV.out.mono ?_
    rintro e w2 ⟨rfl, hw⟩
    subst w2
    go_wp2_with fail
    go_ret
    exact ⟨a1, c1, rfl, hM, hB⟩
  · go_enter Try.func21, Try.ntmps21
    go_wp2_with fail
    refine HR.out.mono ?_
    rintro e w1 ⟨a1, c1, rfl, hM, hB⟩
    obtain ⟨g, rfl, hb, hg, hH⟩ := hM.holds (by omega)
    have HV := Lib.hid (AnyE.slices_Reverse Try.revI (Value.int .i64) (fun _ => rfl) g 0 c1 l w1 hH (by omega))
    have HM := Lib.hid hM
    have HB := Lib.hid hB
    clear hM hB hH
    go_wp2_with fail
    refine HV.out.mono ?_
    rintro e w2 ⟨rfl, q, hw⟩
    have HM2 := Lib.hid (HM.out.put (q := q) (ys := l.reverse) (by simp))
    have HB2 := Lib.hid (Lib.below_putRow (enc := Value.int .i64) (q := q) (d := l.reverse.toArray) HB.out hb)
    rw [← hw] at HM2 HB2
    clear hw HV
    go_wp2_with fail
    go_ret
    exact ⟨_, c1, by rw [HN.out]; rfl, by rw [HL.out]; exact HM2.out, HB2.out⟩

set_option maxHeartbeats 4000000 in
set_option maxRecDepth 1000000 in
theorem rturned_any (l L : List Int) (hL : L = l.reverse) (a : Option Addr) (c : Nat) (w : World) (hl : l.length ≤ 100000) (hA : RowC w a c l) :
    Calls Try.prog 22 #[.slice a l.length c] w fun e w' => ∃ a' c', e = .returned (.slice a' L.length c') ∧ MineC w' w.heap.size a' c' L ∧ Below w.heap.size w w' := by
  have HL := Lib.hid hL
  have HA := Lib.hid hA.2.2.2
  clear hA hL
  go_enter Try.func22, Try.ntmps22
  go_wp2_with fail
  go_loopw [3, 4] (fun u3 u4 wr => ∃ k : Nat, u4 = .int .i64 ((k : Int) - 1) ∧ k ≤ l.length ∧ Dst wr w.heap.size u3 (l.drop k).reverse ∧ Below w.heap.size w wr) (fun _ u4 _ => (intOf u4 + 1).toNat)
  case atStart => exact ⟨l.length, rfl, by omega, by rw [List.drop_length]; exact dst_nil _ _, Below.refl _ _⟩
  case round =>
    obtain ⟨k, rfl, hk, hD, hbw⟩ := hrel
    have hbs := hbw.size
    by_cases hk0 : 0 < k
    · obtain ⟨j, rfl⟩ : ∃ j, k = j + 1 := ⟨k - 1, by omega⟩
      obtain ⟨b, o, rfl, hb, hat⟩ := (HA.out.below hbw) (by omega)
      obtain ⟨x, hx⟩ : ∃ x, l[j]? = some x := ⟨_, List.getElem?_eq_getElem (by omega)⟩
      have hc := hat j x hx
      have HX := Lib.hid (show (l.drop j).reverse = (l.drop (j + 1)).reverse ++ [x] by rw [P.drop_at l j x hx, List.reverse_cons])
      have hj : (0 : Int) ≤ (j : Int) := by omega
      rw [show (((j + 1 : Nat) : Int) - 1) = (j : Int) by omega]
      have HD := Lib.hid (hD.below ((Below.refl wr.heap.size wr).alloc (Nat.le_refl _) (.cells #[.int .i64 x] 3)) (Nat.le_refl _))
      have hdl : (l.drop (j + 1)).reverse.length ≤ 100000 := by simp; omega
      clear hat hx hD
      go_wp2_with (at_builtin; refine wpList_append_ints rfl _ _ rfl w.heap.size _ rfl (l.drop (j + 1)).reverse HD.out (some ⟨wr.heap.size, 0, none⟩) 1 1 rfl [x] rfl (rowC_at wr _ [x] _ _ _ rfl rfl rfl (by simp)) (by simp only [List.length_singleton]; omega) (by simp; omega) ?_; intro a1 c1 w1 hD1 hM1 hB1)
      rw [show ((l.drop (j + 1)).reverse ++ [x]).length = l.length - (j + 1) + 1 by simp] at hD1
      go_roundw
      case rel => exact ⟨j, by trivial, by omega, by rw [HX.out]; exact hD1, (hbw.alloc hbs _).trans hB1⟩
      case measure => first | (simp [intOf]; done) | (simp [intOf]; omega)
    · obtain rfl : k = 0 := by omega
      obtain ⟨a1, c1, rfl, hM⟩ := hD.mine
      rw [show (((0 : Nat) : Int) - 1) = -1 from rfl]
      have HM := Lib.hid hM
      rw [List.drop_zero, ← HL.out] at HM
      rw [List.drop_zero, ← HL.out]
      clear hM hD
      go_wp2_with fail
      go_ret
      exact ⟨a1, c1, rfl, HM.out, hbw⟩
end Go.Proofs.Ytooophfmhohnmaa
