/- LinePushes: the walk. -/
import Derived.Test.YtooophfmhohnmaaGreat
set_option linter.unusedSimpArgs false
set_option linter.unusedVariables false
namespace Go.Proofs.Ytooophfmhohnmaa
open Go.RowKit
set_option maxHeartbeats 8000000 in
set_option maxRecDepth 1000000 in
theorem linepushes_great (l m : List Int) (a b : Option Addr) (c d : Nat) (w : World) (hg : 100 < l.length ∨ 100 < m.length) (hl : l.length ≤ maxLen) (hm : m.length ≤ maxLen) :
    Calls Try.prog 7 #[.slice a l.length c, .slice b m.length d] w fun e w' => e = .returned (.bool true) ∧ Below w.heap.size w w' := by
  unfold maxLen at hl hm
  by_cases h1 : 100 < l.length
  · go_enter Try.func7, Try.ntmps7
    go_wp2_with fail
    refine (wakes_any w).mono ?_
    rintro e w1 ⟨rfl, hB⟩
    go_wp2_with fail
    go_ret
    exact ⟨rfl, hB⟩
  · have h2 : 100 < m.length := by omega
    go_enter Try.func7, Try.ntmps7
    go_wp2_with fail
    refine (wakes_any w).mono ?_
    rintro e w1 ⟨rfl, hB⟩
    go_wp2_with fail
    go_ret
    exact ⟨rfl, hB⟩

set_option maxHeartbeats 8000000 in
set_option maxRecDepth 1000000 in
theorem linepushes_small (l m : List Int) (a b : Option Addr) (c d : Nat) (w : World) (hl : l.length ≤ 100) (hm : m.length ≤ 100) (hI : ∀ x ∈ l, I64 x) (hJ : ∀ x ∈ m, I64 x) (hA : RowC w a c l) (hB : RowC w b d m)
    (U : List Int) (hU : U = l ++ m) (u : Nat) (hu : U.length = u) (hulm : u = l.length + m.length) (V Tl Tm : List Int) (hV : V = U.reverse) (hTl : Tl = l.reverse) (hTm : Tm = m.reverse) :
    Calls Try.prog 7 #[.slice a l.length c, .slice b m.length d] w fun e w' => e = .returned (.bool true) ∧ Below w.heap.size w w' := by
  have HA := Lib.hid hA
  have HB := Lib.hid hB
  have HU := Lib.hid hU
  have HUn := Lib.hid hu
  have HI := Lib.hid (show ∀ x ∈ U, I64 x by intro x hx; rw [hU, List.mem_append] at hx; rcases hx with h | h; exact hI x h; exact hJ x h)
  have HV := Lib.hid hV
  have HTl := Lib.hid hTl
  have HTm := Lib.hid hTm
  have HVn := Lib.hid (show V.length = u by rw [hV, ← hu]; simp)
  have HTln := Lib.hid (show Tl.length = l.length by rw [hTl]; simp)
  have HTmn := Lib.hid (show Tm.length = m.length by rw [hTm]; simp)
  have HVe := Lib.hid (show V = Tm ++ Tl by rw [hV, hU, hTl, hTm]; simp)
  have HK := Lib.hid (show ([] : List Int) = P.keep U U by rw [P.keep_less, P.less_self])
  have h1 : ¬ 100 < l.length := by omega
  have h2 : ¬ 100 < m.length := by omega
  have h3 : decide (100 < l.length) = false := by simp; omega
  have h4 : decide (100 < m.length) = false := by simp; omega
  have h5 : decide ((100 : Int) < (l.length : Int)) = false := by simp; omega
  have h6 : decide ((100 : Int) < (m.length : Int)) = false := by simp; omega
  have hul : l.length ≤ u := by omega
  have huU : u ≤ 200 := by omega
  have HPu := Lib.hid (push_any l m U hU a b c d w (by omega) (by omega) hA hB)
  rw [hu] at HPu
  have hgu : ((u : Int) == (l.length : Int) + (m.length : Int)) = true := by simp; omega
  have HULM := Lib.hid hulm
  clear hA hB hU hu hI hJ hV hTl hTm hulm
  go_enter Try.func7, Try.ntmps7
  go_wp2_with fail
  refine HPu.out.mono ?_
  rintro e w1 ⟨a1, c1, rfl, hM, hB⟩
  have HB1 := Lib.hid hB
  have HM1 := Lib.hid hM.row
  clear hM hB HPu
  go_wp2_with fail
  go_loopw [4, 6, 8] (fun u4 u6 u8 wr => ∃ (k r c3 : Nat) (a3 : Option Addr), u8 = .int .i64 k ∧ k ≤ l.length ∧ k + r = u ∧ u4 = .bool false ∧ u6 = .slice a3 r c3 ∧ Hid (RowC wr a3 c3 (U.drop k)) ∧ Hid (Below w1.heap.size w1 wr)) (fun _ _ v _ => l.length - (intOf v).toNat)
  case atStart => exact ⟨0, u, c1, a1, rfl, by omega, by omega, rfl, rfl, HM1, Lib.hid (Below.refl _ _)⟩
  case round =>
    obtain ⟨k, r, c3, a3, rfl, hk, hkr, rfl, rfl, hR, hbw⟩ := hrel
    have HR := Lib.hid hR.out
    have HBw := Lib.hid hbw.out
    clear hR hbw
    by_cases hlt : k < l.length
    · obtain ⟨s, rfl⟩ : ∃ s, r = s + 1 := ⟨r - 1, by have := HULM.out; omega⟩
      obtain ⟨x, hx⟩ : ∃ x, U[k]? = some x := ⟨_, List.getElem?_eq_getElem (by rw [HUn.out]; have := HULM.out; omega)⟩
      have HN1 := Lib.hid (show (U.drop k).length = s + 1 by rw [List.length_drop, HUn.out]; have := HULM.out; omega)
      have HN2 := Lib.hid (show (U.drop (k + 1)).length = s by rw [List.length_drop, HUn.out]; have := HULM.out; omega)
      have HF := Lib.hid (front_any x (U.drop (k + 1)) (U.drop k) true (.inl ⟨P.drop_at U k x hx, rfl⟩) a3 c3 _ (by rw [HN1.out]; omega) HR.out)
      rw [HN1.out, HN2.out] at HF
      clear hx
      go_wp2_with fail
      refine HF.out.mono ?_
      rintro e w3 ⟨a4, c4, rfl, hM, hB⟩
      have HB3 := Lib.hid (HBw.out.trans (hB.mono HBw.out.size))
      have HM3 := Lib.hid hM.row
      clear hM hB HF
      go_wp2_with fail
      go_roundw
      case rel => exact ⟨k + 1, s, c4, a4, by go_num, by omega, by omega, rfl, rfl, HM3, HB3⟩
      case measure => simp [intOf]; omega
    · obtain rfl : k = l.length := by omega
      obtain rfl : r = m.length := by have := HULM.out; omega
      have HRm := Lib.hid (show RowC _ a3 c3 m by have h := HR.out; rw [HU.out, List.drop_left] at h; exact h)
      clear HR
      rename World => w2
      have HM2 := Lib.hid (HM1.out.below HBw.out)
      have HB2 := Lib.hid (HB1.out.trans (HBw.out.mono HB1.out.size))
      clear HBw
      go_wp2_with fail
      go_loopw [4, 7, 12] (fun u4 u7 u8 wr => ∃ (k r c5 : Nat) (a5 : Option Addr), u8 = .int .i64 k ∧ k ≤ m.length ∧ k + r = u ∧ u4 = .bool false ∧ u7 = .slice a5 r c5 ∧ Hid (RowC wr a5 c5 (U.take r)) ∧ Hid (Below w2.heap.size w2 wr)) (fun _ _ v _ => m.length - (intOf v).toNat)
      case atStart => exact ⟨0, u, c1, a1, rfl, by omega, by omega, rfl, rfl, Lib.hid (by rw [← HUn.out, List.take_length]; exact HM2.out), Lib.hid (Below.refl _ _)⟩
      case round =>
        clear hk hlt hkr
        obtain ⟨k, r, c5, a5, rfl, hk, hkr, rfl, rfl, hR, hbw⟩ := hrel
        have HR := Lib.hid hR.out
        have HBw := Lib.hid hbw.out
        clear hR hbw
        by_cases hlt : k < m.length
        · obtain ⟨s, rfl⟩ : ∃ s, r = s + 1 := ⟨r - 1, by have := HULM.out; omega⟩
          obtain ⟨x, hx⟩ : ∃ x, U[s]? = some x := ⟨_, List.getElem?_eq_getElem (by rw [HUn.out]; have := HULM.out; omega)⟩
          have HN1 := Lib.hid (show (U.take (s + 1)).length = s + 1 by rw [List.length_take, HUn.out]; have := HULM.out; omega)
          have HN2 := Lib.hid (show (U.take s).length = s by rw [List.length_take, HUn.out]; have := HULM.out; omega)
          have HF := Lib.hid (back_any x (U.take s) (U.take (s + 1)) true (.inl ⟨P.take_at U s x hx, rfl⟩) a5 c5 _ (by rw [HN1.out]; omega) HR.out)
          rw [HN1.out, HN2.out] at HF
          clear hx
          go_wp2_with fail
          refine HF.out.mono ?_
          rintro e w3 ⟨a4, c4, rfl, hM, hB⟩
          have HB3 := Lib.hid (HBw.out.trans (hB.mono HBw.out.size))
          have HM3 := Lib.hid hM.row
          clear hM hB HF
          go_wp2_with fail
          go_roundw
          case rel => exact ⟨k + 1, s, c4, a4, by go_num, by omega, by omega, rfl, rfl, HM3, HB3⟩
          case measure => simp [intOf]; omega
        · obtain rfl : k = m.length := by omega
          obtain rfl : r = l.length := by have := HULM.out; omega
          have HRl := Lib.hid (show RowC _ a5 c5 l by have h := HR.out; rw [HU.out, List.take_left] at h; exact h)
          clear HR
          rename World => v0
          have HB0 := Lib.hid (HB2.out.trans (HBw.out.mono HB2.out.size))
          have HRu := Lib.hid (HM2.out.below HBw.out)
          replace HRm := Lib.hid (HRm.out.below HBw.out)
          replace HA := Lib.hid (HA.out.below HB0.out)
          replace HB := Lib.hid (HB.out.below HB0.out)
          clear HBw HM2 HB2
          have HD := Lib.hid (drop_any U U [] u HK.out (by rw [HUn.out]; rfl) a1 a1 c1 c1 v0 (by rw [HUn.out]; omega) (by rw [HUn.out]; omega) HI.out HI.out HRu.out HRu.out)
          rw [HUn.out, List.length_nil] at HD
          go_wp2_with fail
          refine (HD.out).mono ?_
          rintro e v1 ⟨a6, c6, rfl, hM, hB⟩
          have HQ := Lib.hid (show Below v0.heap.size v0 v1 from hB)
          have HB1 := Lib.hid (HB0.out.trans (HQ.out.mono HB0.out.size))
          replace HRu := Lib.hid (HRu.out.below HQ.out)
          replace HRm := Lib.hid (HRm.out.below HQ.out)
          replace HRl := Lib.hid (HRl.out.below HQ.out)
          replace HA := Lib.hid (HA.out.below HQ.out)
          replace HB := Lib.hid (HB.out.below HQ.out)
          clear hB HQ HB0
          clear hM HD
          go_wp2_with fail
          refine (same_any m m a3 b c3 d v1 (by omega) (by omega) HRm.out HB.out).mono ?_
          rw [dec_self]
          rintro e v2 ⟨rfl, hB⟩
          have HQ := Lib.hid (show Below v1.heap.size v1 v2 from hB)
          have HB2 := Lib.hid (HB1.out.trans (HQ.out.mono HB1.out.size))
          replace HRu := Lib.hid (HRu.out.below HQ.out)
          replace HRm := Lib.hid (HRm.out.below HQ.out)
          replace HRl := Lib.hid (HRl.out.below HQ.out)
          replace HA := Lib.hid (HA.out.below HQ.out)
          replace HB := Lib.hid (HB.out.below HQ.out)
          clear hB HQ HB1
          go_wp2_with fail
          refine (same_any l l a5 a c5 c v2 (by omega) (by omega) HRl.out HA.out).mono ?_
          rw [dec_self]
          rintro e v3 ⟨rfl, hB⟩
          have HQ := Lib.hid (show Below v2.heap.size v2 v3 from hB)
          have HB3 := Lib.hid (HB2.out.trans (HQ.out.mono HB2.out.size))
          replace HRu := Lib.hid (HRu.out.below HQ.out)
          replace HRm := Lib.hid (HRm.out.below HQ.out)
          replace HRl := Lib.hid (HRl.out.below HQ.out)
          replace HA := Lib.hid (HA.out.below HQ.out)
          replace HB := Lib.hid (HB.out.below HQ.out)
          clear hB HQ HB2
          have HTu := Lib.hid (turned_any U V HV.out a1 c1 v3 (by rw [HUn.out]; omega) HRu.out)
          rw [HUn.out, HVn.out] at HTu
          go_wp2_with fail
          refine (HTu.out).mono ?_
          rintro e v4 ⟨a7, c7, rfl, hM, hB⟩
          have HQ := Lib.hid (show Below v3.heap.size v3 v4 from hB)
          have HB4 := Lib.hid (HB3.out.trans (HQ.out.mono HB3.out.size))
          replace HRu := Lib.hid (HRu.out.below HQ.out)
          replace HRm := Lib.hid (HRm.out.below HQ.out)
          replace HRl := Lib.hid (HRl.out.below HQ.out)
          replace HA := Lib.hid (HA.out.below HQ.out)
          replace HB := Lib.hid (HB.out.below HQ.out)
          have HRv := Lib.hid hM.row
          clear hM
          clear hB HQ HB3
          have HTu2 := Lib.hid (turned_any m Tm HTm.out b d v4 (by omega) HB.out)
          rw [HTmn.out] at HTu2
          go_wp2_with fail
          refine (HTu2.out).mono ?_
          rintro e v5 ⟨a8, c8, rfl, hM, hB⟩
          have HQ := Lib.hid (show Below v4.heap.size v4 v5 from hB)
          have HB5 := Lib.hid (HB4.out.trans (HQ.out.mono HB4.out.size))
          replace HRu := Lib.hid (HRu.out.below HQ.out)
          replace HRm := Lib.hid (HRm.out.below HQ.out)
          replace HRl := Lib.hid (HRl.out.below HQ.out)
          replace HA := Lib.hid (HA.out.below HQ.out)
          replace HB := Lib.hid (HB.out.below HQ.out)
          replace HRv := Lib.hid (HRv.out.below HQ.out)
          have HRtm := Lib.hid hM.row
          clear hM
          clear hB HQ HB4
          have HTu3 := Lib.hid (turned_any l Tl HTl.out a c v5 (by omega) HA.out)
          rw [HTln.out] at HTu3
          go_wp2_with fail
          refine (HTu3.out).mono ?_
          rintro e v6 ⟨a9, c9, rfl, hM, hB⟩
          have HQ := Lib.hid (show Below v5.heap.size v5 v6 from hB)
          have HB6 := Lib.hid (HB5.out.trans (HQ.out.mono HB5.out.size))
          replace HRu := Lib.hid (HRu.out.below HQ.out)
          replace HRm := Lib.hid (HRm.out.below HQ.out)
          replace HRl := Lib.hid (HRl.out.below HQ.out)
          replace HA := Lib.hid (HA.out.below HQ.out)
          replace HB := Lib.hid (HB.out.below HQ.out)
          replace HRv := Lib.hid (HRv.out.below HQ.out)
          replace HRtm := Lib.hid (HRtm.out.below HQ.out)
          have HRtl := Lib.hid hM.row
          clear hM
          clear hB HQ HB5
          have HPu2 := Lib.hid (push_any Tm Tl V HVe.out a8 a9 c8 c9 v6 (by rw [HTmn.out]; omega) (by rw [HTln.out]; omega) HRtm.out HRtl.out)
          rw [HTmn.out, HTln.out, HVn.out] at HPu2
          go_wp2_with fail
          refine (HPu2.out).mono ?_
          rintro e v7 ⟨a10, c10, rfl, hM, hB⟩
          have HQ := Lib.hid (show Below v6.heap.size v6 v7 from hB)
          have HB7 := Lib.hid (HB6.out.trans (HQ.out.mono HB6.out.size))
          replace HRu := Lib.hid (HRu.out.below HQ.out)
          replace HRm := Lib.hid (HRm.out.below HQ.out)
          replace HRl := Lib.hid (HRl.out.below HQ.out)
          replace HA := Lib.hid (HA.out.below HQ.out)
          replace HB := Lib.hid (HB.out.below HQ.out)
          replace HRv := Lib.hid (HRv.out.below HQ.out)
          replace HRtm := Lib.hid (HRtm.out.below HQ.out)
          replace HRtl := Lib.hid (HRtl.out.below HQ.out)
          have HRw := Lib.hid hM.row
          clear hM
          clear hB HQ HB6
          have HSa := Lib.hid (same_any V V a7 a10 c7 c10 v7 (by rw [HVn.out]; omega) (by rw [HVn.out]; omega) HRv.out HRw.out)
          rw [HVn.out, dec_self] at HSa
          go_wp2_with fail
          refine (HSa.out).mono ?_
          rintro e v8 ⟨rfl, hB⟩
          have HQ := Lib.hid (show Below v7.heap.size v7 v8 from hB)
          have HB8 := Lib.hid (HB7.out.trans (HQ.out.mono HB7.out.size))
          replace HRu := Lib.hid (HRu.out.below HQ.out)
          replace HRm := Lib.hid (HRm.out.below HQ.out)
          replace HRl := Lib.hid (HRl.out.below HQ.out)
          replace HA := Lib.hid (HA.out.below HQ.out)
          replace HB := Lib.hid (HB.out.below HQ.out)
          replace HRv := Lib.hid (HRv.out.below HQ.out)
          replace HRtm := Lib.hid (HRtm.out.below HQ.out)
          replace HRtl := Lib.hid (HRtl.out.below HQ.out)
          replace HRw := Lib.hid (HRw.out.below HQ.out)
          clear hB HQ HB7
          go_wp2_with fail
          refine (wakes_any v8).mono ?_
          rintro e v9 ⟨rfl, hB⟩
          have HQ := Lib.hid (show Below v8.heap.size v8 v9 from hB)
          have HB9 := Lib.hid (HB8.out.trans (HQ.out.mono HB8.out.size))
          replace HRu := Lib.hid (HRu.out.below HQ.out)
          replace HRm := Lib.hid (HRm.out.below HQ.out)
          replace HRl := Lib.hid (HRl.out.below HQ.out)
          replace HA := Lib.hid (HA.out.below HQ.out)
          replace HB := Lib.hid (HB.out.below HQ.out)
          replace HRv := Lib.hid (HRv.out.below HQ.out)
          replace HRtm := Lib.hid (HRtm.out.below HQ.out)
          replace HRtl := Lib.hid (HRtl.out.below HQ.out)
          replace HRw := Lib.hid (HRw.out.below HQ.out)
          clear hB HQ HB8
          go_wp2_with fail
          go_ret
          exact ⟨rfl, HB9.out⟩

theorem linepushes_walk (l m : List Int) (a b : Option Addr) (c d : Nat) (w : World) (hl : l.length ≤ maxLen) (hm : m.length ≤ maxLen) (hI : ∀ x ∈ l, I64 x) (hJ : ∀ x ∈ m, I64 x) (hA : RowC w a c l) (hB : RowC w b d m) :
    Calls Try.prog 7 #[.slice a l.length c, .slice b m.length d] w fun e w' => e = .returned (.bool true) ∧ Below w.heap.size w w' := by
  by_cases hg : 100 < l.length ∨ 100 < m.length
  · exact linepushes_great l m a b c d w hg hl hm
  · exact linepushes_small l m a b c d w (by omega) (by omega) hI hJ hA hB _ rfl _ rfl (by simp) _ _ _ rfl rfl rfl
end Go.Proofs.Ytooophfmhohnmaa
