/- LineTells: the walk. -/
import Derived.Test.YtooophfmhohnmaaGreat
set_option linter.unusedSimpArgs false
set_option linter.unusedVariables false
namespace Go.Proofs.Ytooophfmhohnmaa
open Go.RowKit
set_option maxHeartbeats 8000000 in
set_option maxRecDepth 1000000 in
theorem linetells_great (l m : List Int) (n : Int) (a b : Option Addr) (c d : Nat) (w : World) (hg : 200 < l.length ∨ 200 < m.length) (hl : l.length ≤ maxLen) (hm : m.length ≤ maxLen) :
    Calls Try.prog 3 #[.slice a l.length c, .slice b m.length d, .int .i64 n] w fun e w' => e = .returned (.bool true) ∧ Below w.heap.size w w' := by
  have hq : (decide (200 < l.length) || decide (200 < m.length)) = true := by simpa using hg
  have HB0 := Lib.hid (Below.refl w.heap.size w)
  go_enter Try.func3, Try.ntmps3
  go_wp2_with fail
  refine (great_two a b l.length c m.length d w hl hm).mono ?_
  rw [hq]
  rintro e w1 ⟨rfl, hB⟩
  have HQ := Lib.hid (show Below w.heap.size w w1 from hB)
  have HB1 := Lib.hid (HB0.out.trans (HQ.out.mono HB0.out.size))
  clear hB HQ HB0
  go_wp2_with fail
  refine (wakes_any w1).mono ?_
  rintro e w2 ⟨rfl, hB⟩
  have HQ := Lib.hid (show Below w1.heap.size w1 w2 from hB)
  have HB2 := Lib.hid (HB1.out.trans (HQ.out.mono HB1.out.size))
  clear hB HQ HB1
  go_wp2_with fail
  go_ret
  exact ⟨rfl, HB2.out⟩

set_option maxHeartbeats 8000000 in
set_option maxRecDepth 1000000 in
theorem linetells_small (l m : List Int) (n : Int) (a b : Option Addr) (c d : Nat) (w : World) (hl : l.length ≤ 200) (hm : m.length ≤ 200) (hI : ∀ x ∈ l, I64 x) (hJ : ∀ x ∈ m, I64 x) (hA : RowC w a c l) (hB : RowC w b d m)
    (x : Int) (l1 : List Int) (q : Bool) (hx : (l = x :: l1 ∧ q = true) ∨ (l = [] ∧ x = 0 ∧ l1 = [] ∧ q = false)) (y : Int) (l2 : List Int) (s : Bool) (hy : (l = l2 ++ [y] ∧ s = true) ∨ (l = [] ∧ y = 0 ∧ l2 = [] ∧ s = false))
    (L : List Int) (gn : Nat) (hL : L = P.keep l m) (hL2 : L = P.less l m) (hgn : gn + L.length = l.length) (T : List Int) (hT : T = l.reverse) (U : List Int) (hU : U = l ++ m) :
    Calls Try.prog 3 #[.slice a l.length c, .slice b m.length d, .int .i64 n] w fun e w' => e = .returned (.bool true) ∧ Below w.heap.size w w' := by
  have hq : (decide (200 < l.length) || decide (200 < m.length)) = false := by simp; omega
  have HRl := Lib.hid hA
  have HRm := Lib.hid hB
  have HI := Lib.hid hI
  have HJ := Lib.hid hJ
  have HX := Lib.hid hx
  have HY := Lib.hid hy
  have HL := Lib.hid hL
  have HL2 := Lib.hid hL2
  have HG := Lib.hid hgn
  have HT := Lib.hid hT
  have HU := Lib.hid hU
  have HN1 := Lib.hid (show l1.length ≤ 200 by rcases hx with ⟨h, _⟩ | ⟨_, _, h, _⟩ <;> (try rw [h] at hl) <;> simp at * <;> (try omega) <;> (try (rw [h]; simp)))
  have HN2 := Lib.hid (show l2.length ≤ 200 by rcases hy with ⟨h, _⟩ | ⟨_, _, h, _⟩ <;> (try rw [h] at hl) <;> simp at * <;> (try omega) <;> (try (rw [h]; simp)))
  have HNL := Lib.hid (show L.length ≤ 200 by omega)
  have HNT := Lib.hid (show T.length ≤ 200 by rw [hT]; simpa using hl)
  have HNU := Lib.hid (show U.length ≤ 400 by rw [hU]; simp; omega)
  have HLl := Lib.hid hl
  have HLm := Lib.hid hm
  clear hA hB hI hJ hx hy hL hL2 hgn hT hU
  obtain ⟨z, hz⟩ : ∃ z, P.place l n = z := ⟨_, rfl⟩
  have HZ := Lib.hid hz
  clear hz
  have HB0 := Lib.hid (Below.refl w.heap.size w)
  go_enter Try.func3, Try.ntmps3
  go_wp2_with fail
  refine (great_two a b l.length c m.length d w (by unfold maxLen; omega) (by unfold maxLen; omega)).mono ?_
  rw [hq]
  rintro e w1 ⟨rfl, hB⟩
  have HQ := Lib.hid (show Below w.heap.size w w1 from hB)
  have HB1 := Lib.hid (HB0.out.trans (HQ.out.mono HB0.out.size))
  replace HRl := Lib.hid (HRl.out.below HQ.out)
  replace HRm := Lib.hid (HRm.out.below HQ.out)
  clear hB HQ HB0
  go_wp2_with fail
  refine (front_any x l1 l q HX.out a c w1 (by have := HLl.out; omega) HRl.out).mono ?_
  rintro e w2 ⟨a1, c1, rfl, hM, hB⟩
  have HQ := Lib.hid (show Below w1.heap.size w1 w2 from hB)
  have HB2 := Lib.hid (HB1.out.trans (HQ.out.mono HB1.out.size))
  replace HRl := Lib.hid (HRl.out.below HQ.out)
  replace HRm := Lib.hid (HRm.out.below HQ.out)
  have HF1 := Lib.hid hM.row
  clear hM
  clear hB HQ HB1
  go_wp2_with fail
  refine (rfront_any x l1 l q HX.out a c w2 (by have := HLl.out; omega) HRl.out).mono ?_
  rintro e w3 ⟨a2, c2, rfl, hM, hB⟩
  have HQ := Lib.hid (show Below w2.heap.size w2 w3 from hB)
  have HB3 := Lib.hid (HB2.out.trans (HQ.out.mono HB2.out.size))
  replace HRl := Lib.hid (HRl.out.below HQ.out)
  replace HRm := Lib.hid (HRm.out.below HQ.out)
  replace HF1 := Lib.hid (HF1.out.below HQ.out)
  have HF2 := Lib.hid hM.row
  clear hM
  clear hB HQ HB2
  go_wp2_with fail
  refine (back_any y l2 l s HY.out a c w3 (by have := HLl.out; omega) HRl.out).mono ?_
  rintro e w4 ⟨a3, c3, rfl, hM, hB⟩
  have HQ := Lib.hid (show Below w3.heap.size w3 w4 from hB)
  have HB4 := Lib.hid (HB3.out.trans (HQ.out.mono HB3.out.size))
  replace HRl := Lib.hid (HRl.out.below HQ.out)
  replace HRm := Lib.hid (HRm.out.below HQ.out)
  replace HF1 := Lib.hid (HF1.out.below HQ.out)
  replace HF2 := Lib.hid (HF2.out.below HQ.out)
  have HF3 := Lib.hid hM.row
  clear hM
  clear hB HQ HB3
  go_wp2_with fail
  refine (rback_any y l2 l s HY.out a c w4 (by have := HLl.out; omega) HRl.out).mono ?_
  rintro e w5 ⟨a4, c4, rfl, hM, hB⟩
  have HQ := Lib.hid (show Below w4.heap.size w4 w5 from hB)
  have HB5 := Lib.hid (HB4.out.trans (HQ.out.mono HB4.out.size))
  replace HRl := Lib.hid (HRl.out.below HQ.out)
  replace HRm := Lib.hid (HRm.out.below HQ.out)
  replace HF1 := Lib.hid (HF1.out.below HQ.out)
  replace HF2 := Lib.hid (HF2.out.below HQ.out)
  replace HF3 := Lib.hid (HF3.out.below HQ.out)
  have HF4 := Lib.hid hM.row
  clear hM
  clear hB HQ HB4
  go_wp2_with fail
  refine (rsame_any l1 l1 a1 a2 c1 c2 w5 (by have := HN1.out; omega) (by have := HN1.out; omega) HF1.out HF2.out).mono ?_
  rw [dec_self]
  rintro e w6 ⟨rfl, hB⟩
  have HQ := Lib.hid (show Below w5.heap.size w5 w6 from hB)
  have HB6 := Lib.hid (HB5.out.trans (HQ.out.mono HB5.out.size))
  replace HRl := Lib.hid (HRl.out.below HQ.out)
  replace HRm := Lib.hid (HRm.out.below HQ.out)
  replace HF1 := Lib.hid (HF1.out.below HQ.out)
  replace HF2 := Lib.hid (HF2.out.below HQ.out)
  replace HF3 := Lib.hid (HF3.out.below HQ.out)
  replace HF4 := Lib.hid (HF4.out.below HQ.out)
  clear hB HQ HB5
  clear HF1
  clear HF2
  go_wp2_with fail
  refine (rsame_any l2 l2 a3 a4 c3 c4 w6 (by have := HN2.out; omega) (by have := HN2.out; omega) HF3.out HF4.out).mono ?_
  rw [dec_self]
  rintro e w7 ⟨rfl, hB⟩
  have HQ := Lib.hid (show Below w6.heap.size w6 w7 from hB)
  have HB7 := Lib.hid (HB6.out.trans (HQ.out.mono HB6.out.size))
  replace HRl := Lib.hid (HRl.out.below HQ.out)
  replace HRm := Lib.hid (HRm.out.below HQ.out)
  replace HF3 := Lib.hid (HF3.out.below HQ.out)
  replace HF4 := Lib.hid (HF4.out.below HQ.out)
  clear hB HQ HB6
  clear HF3
  clear HF4
  go_wp2_with fail
  refine (drop_any l m L gn HL.out HG.out a b c d w7 (by have := HLl.out; omega) (by have := HLm.out; omega) HI.out HJ.out HRl.out HRm.out).mono ?_
  rintro e w8 ⟨a5, c5, rfl, hM, hB⟩
  have HQ := Lib.hid (show Below w7.heap.size w7 w8 from hB)
  have HB8 := Lib.hid (HB7.out.trans (HQ.out.mono HB7.out.size))
  replace HRl := Lib.hid (HRl.out.below HQ.out)
  replace HRm := Lib.hid (HRm.out.below HQ.out)
  have HF5 := Lib.hid hM.row
  clear hM
  clear hB HQ HB7
  go_wp2_with fail
  refine (rdrop_any l m L gn HL2.out HG.out a b c d w8 (by have := HLl.out; omega) (by have := HLm.out; omega) HRl.out HRm.out).mono ?_
  rintro e w9 ⟨a6, c6, rfl, hM, hB⟩
  have HQ := Lib.hid (show Below w8.heap.size w8 w9 from hB)
  have HB9 := Lib.hid (HB8.out.trans (HQ.out.mono HB8.out.size))
  replace HRl := Lib.hid (HRl.out.below HQ.out)
  replace HRm := Lib.hid (HRm.out.below HQ.out)
  replace HF5 := Lib.hid (HF5.out.below HQ.out)
  have HF6 := Lib.hid hM.row
  clear hM
  clear hB HQ HB8
  go_wp2_with fail
  refine (rsame_any L L a5 a6 c5 c6 w9 (by have := HNL.out; omega) (by have := HNL.out; omega) HF5.out HF6.out).mono ?_
  rw [dec_self]
  rintro e w10 ⟨rfl, hB⟩
  have HQ := Lib.hid (show Below w9.heap.size w9 w10 from hB)
  have HB10 := Lib.hid (HB9.out.trans (HQ.out.mono HB9.out.size))
  replace HRl := Lib.hid (HRl.out.below HQ.out)
  replace HRm := Lib.hid (HRm.out.below HQ.out)
  replace HF5 := Lib.hid (HF5.out.below HQ.out)
  replace HF6 := Lib.hid (HF6.out.below HQ.out)
  clear hB HQ HB9
  clear HF5
  clear HF6
  go_wp2_with fail
  refine (push_any l m U HU.out a b c d w10 (by have := HLl.out; omega) (by have := HLm.out; omega) HRl.out HRm.out).mono ?_
  rintro e w11 ⟨a7, c7, rfl, hM, hB⟩
  have HQ := Lib.hid (show Below w10.heap.size w10 w11 from hB)
  have HB11 := Lib.hid (HB10.out.trans (HQ.out.mono HB10.out.size))
  replace HRl := Lib.hid (HRl.out.below HQ.out)
  replace HRm := Lib.hid (HRm.out.below HQ.out)
  have HF7 := Lib.hid hM.row
  clear hM
  clear hB HQ HB10
  go_wp2_with fail
  refine (rpush_any l m U HU.out a b c d w11 (by have := HLl.out; omega) (by have := HLm.out; omega) HRl.out HRm.out).mono ?_
  rintro e w12 ⟨a8, c8, rfl, hM, hB⟩
  have HQ := Lib.hid (show Below w11.heap.size w11 w12 from hB)
  have HB12 := Lib.hid (HB11.out.trans (HQ.out.mono HB11.out.size))
  replace HRl := Lib.hid (HRl.out.below HQ.out)
  replace HRm := Lib.hid (HRm.out.below HQ.out)
  replace HF7 := Lib.hid (HF7.out.below HQ.out)
  have HF8 := Lib.hid hM.row
  clear hM
  clear hB HQ HB11
  go_wp2_with fail
  refine (rsame_any U U a7 a8 c7 c8 w12 (by have := HNU.out; omega) (by have := HNU.out; omega) HF7.out HF8.out).mono ?_
  rw [dec_self]
  rintro e w13 ⟨rfl, hB⟩
  have HQ := Lib.hid (show Below w12.heap.size w12 w13 from hB)
  have HB13 := Lib.hid (HB12.out.trans (HQ.out.mono HB12.out.size))
  replace HRl := Lib.hid (HRl.out.below HQ.out)
  replace HRm := Lib.hid (HRm.out.below HQ.out)
  replace HF7 := Lib.hid (HF7.out.below HQ.out)
  replace HF8 := Lib.hid (HF8.out.below HQ.out)
  clear hB HQ HB12
  clear HF7
  clear HF8
  go_wp2_with fail
  refine (place_any l n a c w13 (by have := HLl.out; omega) HRl.out).mono ?_
  rw [HZ.out]
  rintro e wz ⟨rfl, hwz⟩
  subst wz
  go_wp2_with fail
  refine (rplace_any l n a c w13 (by have := HLl.out; omega) HRl.out).mono ?_
  rw [HZ.out]
  rintro e wz ⟨rfl, hwz⟩
  subst wz
  go_wp2_with fail
  refine (turned_any l T HT.out a c w13 (by have := HLl.out; omega) HRl.out).mono ?_
  rintro e w14 ⟨a9, c9, rfl, hM, hB⟩
  have HQ := Lib.hid (show Below w13.heap.size w13 w14 from hB)
  have HB14 := Lib.hid (HB13.out.trans (HQ.out.mono HB13.out.size))
  replace HRl := Lib.hid (HRl.out.below HQ.out)
  replace HRm := Lib.hid (HRm.out.below HQ.out)
  have HF9 := Lib.hid hM.row
  clear hM
  clear hB HQ HB13
  go_wp2_with fail
  refine (rturned_any l T HT.out a c w14 (by have := HLl.out; omega) HRl.out).mono ?_
  rintro e w15 ⟨a10, c10, rfl, hM, hB⟩
  have HQ := Lib.hid (show Below w14.heap.size w14 w15 from hB)
  have HB15 := Lib.hid (HB14.out.trans (HQ.out.mono HB14.out.size))
  replace HRl := Lib.hid (HRl.out.below HQ.out)
  replace HRm := Lib.hid (HRm.out.below HQ.out)
  replace HF9 := Lib.hid (HF9.out.below HQ.out)
  have HF10 := Lib.hid hM.row
  clear hM
  clear hB HQ HB14
  go_wp2_with fail
  refine (rsame_any T T a9 a10 c9 c10 w15 (by have := HNT.out; omega) (by have := HNT.out; omega) HF9.out HF10.out).mono ?_
  rw [dec_self]
  rintro e w16 ⟨rfl, hB⟩
  have HQ := Lib.hid (show Below w15.heap.size w15 w16 from hB)
  have HB16 := Lib.hid (HB15.out.trans (HQ.out.mono HB15.out.size))
  replace HRl := Lib.hid (HRl.out.below HQ.out)
  replace HRm := Lib.hid (HRm.out.below HQ.out)
  replace HF9 := Lib.hid (HF9.out.below HQ.out)
  replace HF10 := Lib.hid (HF10.out.below HQ.out)
  clear hB HQ HB15
  clear HF9
  clear HF10
  obtain ⟨v, hv⟩ : ∃ v, decide (l = m) = v := ⟨_, rfl⟩
  have HV := Lib.hid hv
  clear hv
  go_wp2_with fail
  refine (same_any l m a b c d w16 (by have := HLl.out; omega) (by have := HLm.out; omega) HRl.out HRm.out).mono ?_
  rw [HV.out]
  rintro e w17 ⟨rfl, hB⟩
  have HQ := Lib.hid (show Below w16.heap.size w16 w17 from hB)
  have HB17 := Lib.hid (HB16.out.trans (HQ.out.mono HB16.out.size))
  replace HRl := Lib.hid (HRl.out.below HQ.out)
  replace HRm := Lib.hid (HRm.out.below HQ.out)
  clear hB HQ HB16
  go_wp2_with fail
  refine (rsame_any l m a b c d w17 (by have := HLl.out; omega) (by have := HLm.out; omega) HRl.out HRm.out).mono ?_
  rw [HV.out]
  rintro e w18 ⟨rfl, hB⟩
  have HQ := Lib.hid (show Below w17.heap.size w17 w18 from hB)
  have HB18 := Lib.hid (HB17.out.trans (HQ.out.mono HB17.out.size))
  replace HRl := Lib.hid (HRl.out.below HQ.out)
  replace HRm := Lib.hid (HRm.out.below HQ.out)
  clear hB HQ HB17
  go_wp2_with fail
  refine (wakes_any w18).mono ?_
  rintro e w19 ⟨rfl, hB⟩
  have HQ := Lib.hid (show Below w18.heap.size w18 w19 from hB)
  have HB19 := Lib.hid (HB18.out.trans (HQ.out.mono HB18.out.size))
  replace HRl := Lib.hid (HRl.out.below HQ.out)
  replace HRm := Lib.hid (HRm.out.below HQ.out)
  clear hB HQ HB18
  go_wp2_with fail
  go_ret
  exact ⟨rfl, HB19.out⟩

theorem linetells_walk (l m : List Int) (n : Int) (a b : Option Addr) (c d : Nat) (w : World) (hl : l.length ≤ maxLen) (hm : m.length ≤ maxLen) (hI : ∀ x ∈ l, I64 x) (hJ : ∀ x ∈ m, I64 x) (hA : RowC w a c l) (hB : RowC w b d m) :
    Calls Try.prog 3 #[.slice a l.length c, .slice b m.length d, .int .i64 n] w fun e w' => e = .returned (.bool true) ∧ Below w.heap.size w w' := by
  by_cases hg : 200 < l.length ∨ 200 < m.length
  · exact linetells_great l m n a b c d w hg hl hm
  · obtain ⟨x, l1, q, hx⟩ := P.front_of l
    obtain ⟨y, l2, s, hy⟩ := P.back_of l
    exact linetells_small l m n a b c d w (by omega) (by omega) hI hJ hA hB x l1 q hx y l2 s hy (P.less l m) (P.gone l m) (P.keep_less l m).symm rfl (by have := P.less_length l m; unfold P.gone; omega) _ rfl _ rfl
end Go.Proofs.Ytooophfmhohnmaa
