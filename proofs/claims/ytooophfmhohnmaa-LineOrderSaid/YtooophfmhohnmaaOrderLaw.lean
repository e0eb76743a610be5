/- LineOrder: the walk. -/
import Derived.Test.YtooophfmhohnmaaGreat
set_option linter.unusedSimpArgs false
set_option linter.unusedVariables false
namespace Go.Proofs.Ytooophfmhohnmaa
open Go.RowKit

set_option maxHeartbeats 4000000 in
set_option maxRecDepth 1000000 in
theorem lineorder_great (l : List Int) (a : Option Addr) (c : Nat) (w : World) (hg : 200 < l.length) (hl : l.length ≤ maxLen) :
    Calls Try.prog 4 #[.slice a l.length c] w fun e w' => e = .returned (.bool true) ∧ Below w.heap.size w w' := by
  have hq : decide (200 < l.length) = true := by simpa using hg
  go_enter Try.func4, Try.ntmps4
  go_wp2_with fail
  refine (great_one a l.length c w hl).mono ?_
  rw [hq]
  rintro e w1 ⟨rfl, hB⟩
  go_wp2_with fail
  refine (wakes_any w1).mono ?_
  rintro e w2 ⟨rfl, hB2⟩
  have hB := hB.trans (hB2.mono hB.size)
  go_wp2_with fail
  go_ret
  exact ⟨rfl, hB⟩

set_option maxHeartbeats 8000000 in
set_option maxRecDepth 1000000 in
theorem lineorder_small (l : List Int) (a : Option Addr) (c : Nat) (w : World) (hl : l.length ≤ 200) (hA : RowC w a c l) (T : List Int) (hT : T = l.reverse) :
    Calls Try.prog 4 #[.slice a l.length c] w fun e w' => e = .returned (.bool true) ∧ Below w.heap.size w w' := by
  have hq : decide (200 < l.length) = false := by simpa using hl
  have HA := Lib.hid hA
  have HT := Lib.hid hT
  have HTT := Lib.hid (show l = T.reverse by rw [hT]; simp)
  have HTN := Lib.hid (show T.length ≤ 200 by rw [hT]; simpa using hl)
  clear hA hT
  go_enter Try.func4, Try.ntmps4
  go_wp2_with fail
  refine (great_one a l.length c w (by unfold maxLen; omega)).mono ?_
  rw [hq]
  rintro e w1 ⟨rfl, hB⟩
  have HB1 := Lib.hid hB
  clear hB
  go_wp2_with fail
  go_loopw [3, 4] (fun u3 u4 wr => ∃ (k c2 : Nat) (a2 : Option Addr), u4 = .int .i64 k ∧ k ≤ l.length ∧ u3 = .slice a2 k c2 ∧ Hid (RowC wr a2 c2 (l.take k)) ∧ Below w.heap.size w wr) (fun _ u _ => l.length - (intOf u).toNat)
  case atStart => exact ⟨0, 0, none, rfl, by omega, rfl, Lib.hid (row_none _), HB1.out⟩
  case round =>
    obtain ⟨k, c2, a2, rfl, hk, rfl, hR, hbw⟩ := hrel
    have HR := Lib.hid hR.out
    have hbs := hbw.size
    clear hR
    by_cases hlt : k < l.length
    · obtain ⟨b, o, rfl, hb, hat⟩ := (HA.out.2.2.2.below hbw) (by omega)
      obtain ⟨x, hx⟩ : ∃ x, l[k]? = some x := ⟨_, List.getElem?_eq_getElem hlt⟩
      have hc := hat k x hx
      have HP := Lib.hid (push_any (l.take k) [x] (l.take (k + 1)) (P.take_at l k x hx) a2 (some ⟨wr.heap.size, 0, none⟩) c2 1 (wr.alloc (.cells #[.int .i64 x] 3)) (by simp; omega) (by simp) (HR.out.below ((Below.refl _ _).alloc (Nat.le_refl _) _)) (rowC_at wr _ [x] _ _ 1 rfl rfl rfl (by simp)))
      rw [show (l.take k).length = k by simp; omega, show (l.take (k + 1)).length = k + 1 by simp; omega, List.length_singleton] at HP
      clear hat hx
      go_wp2_with fail
      refine HP.out.mono ?_
      rintro e w2 ⟨a3, c3, rfl, hM, hB⟩
      have HB2 := Lib.hid ((hbw.alloc hbs (.cells #[.int .i64 x] 3)).trans (hB.mono (by simp; omega)))
      have HM := Lib.hid hM.row
      clear hM hB HP
      go_wp2_with fail
      go_roundw
      case rel => exact ⟨k + 1, c3, a3, by go_num, by omega, rfl, HM, HB2.out⟩
      case measure => simp [intOf]; omega
    · obtain rfl : k = l.length := by omega
      rw [List.take_length] at HR
      go_wp2_with fail
      go_loopw [2, 3, 5, 6] (fun u2 u3 u5 u6 wr => ∃ (k r c3 c5 : Nat) (a3 a5 : Option Addr), u6 = .int .i64 k ∧ k + r = l.length ∧ u2 = .bool false ∧ u3 = .slice a3 r c3 ∧ Hid (RowC wr a3 c3 (l.drop k)) ∧ u5 = .slice a5 r c5 ∧ Hid (RowC wr a5 c5 (l.take r)) ∧ Below w.heap.size w wr) (fun _ _ _ u _ => l.length - (intOf u).toNat)
      case atStart => exact ⟨0, l.length, c2, c2, a2, a2, rfl, by omega, rfl, rfl, HR, rfl, Lib.hid (by rw [List.take_length]; exact HR.out), hbw⟩
      case round =>
        clear hbw hbs HR
        obtain ⟨k, r, c3, c5, a3, a5, rfl, hkr, rfl, rfl, hR3, rfl, hR5, hbw⟩ := hrel
        have HR3 := Lib.hid hR3.out
        have HR5 := Lib.hid hR5.out
        have hbs := hbw.size
        clear hR3 hR5
        rcases (show r = 0 ∨ ∃ s, r = s + 1 from by cases r with | zero => exact .inl rfl | succ s => exact .inr ⟨s, rfl⟩) with rfl | ⟨s, rfl⟩
        · obtain rfl : k = l.length := by omega
          have HF := Lib.hid (front_any 0 [] [] false (.inr ⟨rfl, rfl, rfl, rfl⟩) a3 c3 _ (by simp) (by have h := HR3.out; rw [List.drop_length] at h; exact h))
          have HR5 := Lib.hid (show RowC _ a5 c5 [] from by have h := HR5.out; rw [List.take_zero] at h; exact h)
          rw [List.length_nil] at HF
          go_wp2_with fail
          refine HF.out.mono ?_
          rintro e w3 ⟨a6, c6, rfl, hM, hB⟩
          have HB3 := Lib.hid (hbw.trans (hB.mono hbs))
          have HBk := Lib.hid (back_any 0 [] [] false (.inr ⟨rfl, rfl, rfl, rfl⟩) a5 c5 w3 (by simp) (HR5.out.below hB))
          rw [List.length_nil] at HBk
          clear hM hB
          go_wp2_with fail
          refine HBk.out.mono ?_
          rintro e w4 ⟨a7, c7, rfl, hM, hB⟩
          have HB4 := Lib.hid (HB3.out.trans (hB.mono HB3.out.size))
          clear hM hB
          go_wp2_with fail
          refine (turned_any l T HT.out a c w4 (by omega) (HA.out.below HB4.out)).mono ?_
          rintro e w5 ⟨a8, c8, rfl, hM, hB⟩
          have HB5 := Lib.hid (HB4.out.trans (hB.mono HB4.out.size))
          have HM5 := Lib.hid hM.row
          clear hM hB
          go_wp2_with fail
          refine (turned_any T l HTT.out a8 c8 w5 (by have := HTN.out; omega) HM5.out).mono ?_
          rintro e w6 ⟨a9, c9, rfl, hM, hB⟩
          have HB6 := Lib.hid (HB5.out.trans (hB.mono HB5.out.size))
          have HM6 := Lib.hid hM.row
          clear hM hB
          go_wp2_with fail
          refine (same_any l l a9 a c9 c w6 (by omega) (by omega) HM6.out (HA.out.below HB6.out)).mono ?_
          rw [dec_self]
          rintro e w7 ⟨rfl, hB⟩
          have HB7 := Lib.hid (HB6.out.trans (hB.mono HB6.out.size))
          clear hB
          go_wp2_with fail
          refine (wakes_any w7).mono ?_
          rintro e w8 ⟨rfl, hB⟩
          have HB8 := Lib.hid (HB7.out.trans (hB.mono HB7.out.size))
          clear hB
          go_wp2_with fail
          go_ret
          exact ⟨rfl, HB8.out⟩
        · obtain ⟨x, hx⟩ : ∃ x, l[k]? = some x := ⟨_, List.getElem?_eq_getElem (by omega)⟩
          obtain ⟨y, hy⟩ : ∃ y, l[s]? = some y := ⟨_, List.getElem?_eq_getElem (by omega)⟩
          have HXk := Lib.hid hx
          have HYs := Lib.hid hy
          have HN1 := Lib.hid (show (l.drop k).length = s + 1 by simp; omega)
          have HN2 := Lib.hid (show (l.drop (k + 1)).length = s by simp; omega)
          have HN3 := Lib.hid (show (l.take (s + 1)).length = s + 1 by simp; omega)
          have HN4 := Lib.hid (show (l.take s).length = s by simp; omega)
          have HF := Lib.hid (front_any x (l.drop (k + 1)) (l.drop k) true (.inl ⟨P.drop_at l k x hx, rfl⟩) a3 c3 _ (by rw [HN1.out]; omega) HR3.out)
          rw [HN1.out, HN2.out] at HF
          clear hx hy
          go_wp2_with fail
          refine HF.out.mono ?_
          rintro e w3 ⟨a6, c6, rfl, hM, hB⟩
          have HB3 := Lib.hid (hbw.trans (hB.mono hbs))
          have HBk := Lib.hid (back_any y (l.take s) (l.take (s + 1)) true (.inl ⟨P.take_at l s y HYs.out, rfl⟩) a5 c5 w3 (by rw [HN3.out]; omega) (HR5.out.below hB))
          rw [HN3.out, HN4.out] at HBk
          have HM3 := Lib.hid hM.row
          clear hM hB
          go_wp2_with fail
          refine HBk.out.mono ?_
          rintro e w4 ⟨a7, c7, rfl, hM, hB⟩
          have HB4 := Lib.hid (HB3.out.trans (hB.mono HB3.out.size))
          have HM34 := Lib.hid (HM3.out.below hB)
          have HM4 := Lib.hid hM.row
          clear hM hB
          obtain ⟨b, o, rfl, hb, hat⟩ := (HA.out.2.2.2.below HB4.out) (by omega)
          have hc1 := hat k x HXk.out
          have hc2 := hat s y HYs.out
          have hidx : (l.length : Int) - 1 - (k : Int) = (s : Int) := by omega
          clear hat
          go_wp2_with fail
          go_roundw
          case rel => exact ⟨k + 1, s, c6, c7, a6, a7, by go_num, by omega, by trivial, rfl, HM34, rfl, HM4, HB4.out⟩
          case measure => simp [intOf]; omega

theorem lineorder_walk (l : List Int) (a : Option Addr) (c : Nat) (w : World) (hl : l.length ≤ maxLen) (hA : RowC w a c l) :
    Calls Try.prog 4 #[.slice a l.length c] w fun e w' => e = .returned (.bool true) ∧ Below w.heap.size w w' := by
  by_cases hg : 200 < l.length
  · exact lineorder_great l a c w hg hl
  · exact lineorder_small l a c w (by omega) hA _ rfl
end Go.Proofs.Ytooophfmhohnmaa
