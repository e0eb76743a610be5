/- GateCut walked. -/
import Derived.Test.YtfplkjnnnbknoaaTellsLaw
set_option linter.unusedSimpArgs false
set_option linter.unusedVariables false
namespace Go.Proofs.Ytfplkjnnnbknoaa
open Go.RowKit Go.Proofs.Ytfplkjnnnbknoaa.Kind

set_option maxHeartbeats 16000000 in
set_option maxRecDepth 1000000 in
theorem gatecut_walk (cap : Int) (cl : Bool) (l : List Lt) (a : Option Addr) (c : Nat) (w : World) (hcap : cap ≤ 9223372036854775807) (hA : LK.RowC w a c l) :
    Calls Try.prog 5 #[.agg #[.int .i64 cap, .slice a l.length c, .bool cl]] w fun e w' => e = .returned (.bool true) ∧ Below w.heap.size w w' := by
  have HA := Lib.hid hA
  have HWk := Lib.hid (fun w => wakes_any w)
  have hb2 := below2 w (.cells #[.int .i64 cap, .slice a l.length c, .bool cl] 24) (.cells #[.int .i64 cap, .slice a l.length c, .bool cl] 24)
  have hl2 := laid2 w (.cells #[.int .i64 cap, .slice a l.length c, .bool cl] 24) (.cells #[.int .i64 cap, .slice a l.length c, .bool cl] 24)
  have HG1 := Lib.hid (great1 cap a l.length c cl 24 (w.heap.size + 1) _ hl2.2)
  have HB0 := Lib.hid hb2
  have HL0 := Lib.hid hl2.1
  clear hA hb2 hl2
  by_cases hg : l.length ≤ 200 ∧ -1099511627776 ≤ cap
  case neg =>
    have hgb : (decide (200 < l.length) || decide (cap < -1099511627776)) = true := by simp; omega
    rw [hgb] at HG1
    clear hg hgb
    go_enter Try.func5, Try.ntmps5
    go_wp2_with fail
    with_reducible refine HG1.out.mono ?_
    rintro e w1 ⟨rfl, hB⟩
    have HB1 := Lib.hid (HB0.out.trans (hB.mono HB0.out.size))
    clear hB
    go_wp2_with fail
    with_reducible refine (HWk.out _).mono ?_
    rintro e w2 ⟨rfl, hB⟩
    have HB2 := Lib.hid (HB1.out.trans (hB.mono HB1.out.size))
    clear hB
    go_wp2_with fail
    go_ret
    exact ⟨rfl, HB2.out⟩
  have hgb : (decide (200 < l.length) || decide (cap < -1099511627776)) = false := by simp; omega
  rw [hgb] at HG1
  obtain ⟨hl200, hcap0⟩ := hg
  clear hgb
  cases cl
  case true =>
    have HC := Lib.hid (fun w h => cut_any cap true l 52 0 [] false (.inl ⟨rfl, rfl, rfl, rfl, rfl⟩) (by omega) hcap a c w h)
    rw [List.length_nil] at HC
    have hroom : roomB cap l.length true = 0 := by simp [roomB]
    go_enter Try.func5, Try.ntmps5
    go_wp2_with fail
    with_reducible refine HG1.out.mono ?_
    rintro e w1 ⟨rfl, hB⟩
    have HB1 := Lib.hid (HB0.out.trans (hB.mono HB0.out.size))
    have HD1 := Lib.hid ((hB.block _ (by simp; try omega)).trans HL0.out)
    clear hB HG1 HB0 HL0
    obtain ⟨⟨p0, p1, p2⟩, p3, p4, p5⟩ := box3 HD1.out
    go_wp2_with fail
    with_reducible refine (HC.out _ (HA.out.below HB1.out)).mono ?_
    rintro e w2 ⟨a2, c2, rfl, hL, hB⟩
    have hbX := hB.alloc hB.size (.cells #[.int .i64 0, .slice a2 0 c2, .bool false] 24)
    have HD2 := Lib.hid ((hbX.block _ (lt_of_block HD1.out)).trans HD1.out)
    have HB2 := Lib.hid (HB1.out.trans (hbX.mono HB1.out.size))
    clear hL hB hbX HC p0 p1 p2 p3 p4 p5
    obtain ⟨⟨p0, p1, p2⟩, p3, p4, p5⟩ := box3 HD2.out
    go_wp2_with fail
    have hs2 : (w2.alloc (.cells #[.int .i64 0, .slice a2 0 c2, .bool false] 24)).heap.size = w2.heap.size + 1 := by simp
    generalize w2.alloc (.cells #[.int .i64 0, .slice a2 0 c2, .bool false] 24) = W2 at *
    have HK := Lib.hid (iscut1 cap a l.length c true 24 (w2.heap.size + 1) _ (by have h := laid1 W2 (.cells #[.int .i64 cap, .slice a l.length c, .bool true] 24); rw [hs2] at h; exact h))
    with_reducible refine HK.out.mono ?_
    rintro e w3 ⟨rfl, hB⟩
    have hb3 := below1 W2 (.cells #[.int .i64 cap, .slice a l.length c, .bool true] 24)
    have hb3 := hb3.trans (hB.mono hb3.size)
    have HD3 := Lib.hid ((hb3.block _ (lt_of_block HD2.out)).trans HD2.out)
    have HB3 := Lib.hid (HB2.out.trans (hb3.mono HB2.out.size))
    clear hB hb3 HK p0 p1 p2 p3 p4 p5
    obtain ⟨⟨p0, p1, p2⟩, p3, p4, p5⟩ := box3 HD3.out
    have HF := Lib.hid (free_any cap a l.length c true w3 hcap)
    rw [hroom] at HF
    go_wp2_with fail
    with_reducible refine HF.out.mono ?_
    rintro e w4 ⟨rfl, hB⟩
    have HB4 := Lib.hid (HB3.out.trans (hB.mono HB3.out.size))
    clear hB HF p0 p1 p2 p3 p4 p5
    go_wp2_with fail
    with_reducible refine (HWk.out _).mono ?_
    rintro e w5 ⟨rfl, hB⟩
    have HB5 := Lib.hid (HB4.out.trans (hB.mono HB4.out.size))
    clear hB
    go_wp2_with fail
    go_ret
    exact ⟨rfl, HB5.out⟩
  case false =>
    have HC := Lib.hid (fun w h => cut_any cap false l 0 cap l true (.inr ⟨rfl, rfl, rfl, rfl, rfl⟩) (by omega) hcap a c w h)
    go_enter Try.func5, Try.ntmps5
    go_wp2_with fail
    with_reducible refine HG1.out.mono ?_
    rintro e w1 ⟨rfl, hB⟩
    have HB1 := Lib.hid (HB0.out.trans (hB.mono HB0.out.size))
    have HD1 := Lib.hid ((hB.block _ (by simp; try omega)).trans HL0.out)
    clear hB HG1 HB0 HL0
    obtain ⟨⟨p0, p1, p2⟩, p3, p4, p5⟩ := box3 HD1.out
    go_wp2_with fail
    with_reducible refine (HC.out _ (HA.out.below HB1.out)).mono ?_
    rintro e w2 ⟨a2, c2, rfl, hL, hB⟩
    have hbX := hB.alloc hB.size (.cells #[.int .i64 cap, .slice a2 l.length c2, .bool true] 24)
    have HD2 := Lib.hid ((hbX.block _ (lt_of_block HD1.out)).trans HD1.out)
    have HB2 := Lib.hid (HB1.out.trans (hbX.mono HB1.out.size))
    have HX2 := Lib.hid (laid1 w2 (.cells #[.int .i64 cap, .slice a2 l.length c2, .bool true] 24))
    have HR2 := Lib.hid (hL.below (below1 w2 (.cells #[.int .i64 cap, .slice a2 l.length c2, .bool true] 24))).row
    have hAlt : w.heap.size < w2.heap.size := by have := lt_of_block HD1.out; have := hB.size; omega
    clear hL hB hbX HC p0 p1 p2 p3 p4 p5 HD1 HB1
    obtain ⟨⟨p0, p1, p2⟩, p3, p4, p5⟩ := box3 HX2.out
    go_wp2_with fail
    generalize w2.alloc (.cells #[.int .i64 cap, .slice a2 l.length c2, .bool true] 24) = W2 at *
    generalize hAA : w2.heap.size = A at *
    have HC := Lib.hid (cut_any cap true l 52 0 [] false (.inl ⟨rfl, rfl, rfl, rfl, rfl⟩) (by omega) hcap a2 c2 W2 HR2.out)
    rw [List.length_nil] at HC
    with_reducible refine HC.out.mono ?_
    rintro e w3 ⟨a3, c3, rfl, hL, hB⟩
    have hbX := hB.alloc hB.size (.cells #[.int .i64 0, .slice a3 0 c3, .bool false] 24)
    have HD3 := Lib.hid ((hbX.block _ (lt_of_block HD2.out)).trans HD2.out)
    have HX3 := Lib.hid ((hbX.block _ (lt_of_block HX2.out)).trans HX2.out)
    have HB3 := Lib.hid (HB2.out.trans (hbX.mono HB2.out.size))
    have HR3 := Lib.hid (HR2.out.below hbX)
    clear hL hB hbX HC p0 p1 p2 p3 p4 p5 HD2 HB2 HR2 HX2
    obtain ⟨⟨p0, p1, p2⟩, p3, p4, p5⟩ := box3 HX3.out
    go_wp2_with fail
    generalize w3.alloc (.cells #[.int .i64 0, .slice a3 0 c3, .bool false] 24) = W3 at *
    have HC := Lib.hid (enter_any cap true l 52 0 [] false (.inl ⟨rfl, rfl, rfl, rfl, rfl⟩) (by omega) hcap a2 c2 W3 HR3.out)
    rw [List.length_nil] at HC
    with_reducible refine HC.out.mono ?_
    rintro e w4 ⟨a4, c4, rfl, hL, hB⟩
    have hbX := hB.alloc hB.size (.cells #[.int .i64 0, .slice a4 0 c4, .bool false] 24)
    have HD4 := Lib.hid ((hbX.block _ (lt_of_block HD3.out)).trans HD3.out)
    have HX4 := Lib.hid ((hbX.block _ (lt_of_block HX3.out)).trans HX3.out)
    have HB4 := Lib.hid (HB3.out.trans (hbX.mono HB3.out.size))
    have HR4 := Lib.hid (HR3.out.below hbX)
    clear hL hB hbX HC p0 p1 p2 p3 p4 p5 HD3 HB3 HR3 HX3
    obtain ⟨⟨p0, p1, p2⟩, p3, p4, p5⟩ := box3 HX4.out
    obtain ⟨⟨d0, d1, d2⟩, _⟩ := box3 HD4.out
    go_upto_region 8 with fail
    generalize w4.alloc (.cells #[.int .i64 0, .slice a4 0 c4, .bool false] 24) = W4 at *
    have HSB := Lib.hid (show ∀ W', Below W4.heap.size W4 W' → ((W'.cell? ⟨w.heap.size, 1, none⟩ = some (.slice a l.length c) ∧ W'.cell? ⟨w.heap.size, 2, none⟩ = some (.bool false)) ∧ (W'.cell? ⟨A, 0, none⟩ = some (.int .i64 cap) ∧ W'.cell? ⟨A, 1, none⟩ = some (.slice a2 l.length c2) ∧ W'.cell? ⟨A, 2, none⟩ = some (.bool true))) ∧ Below W4.heap.size W4 W' from fun W' h => ⟨⟨(box3 ((h.block _ (lt_of_block HD4.out)).trans HD4.out)).1.2, (box3 ((h.block _ (lt_of_block HX4.out)).trans HX4.out)).1⟩, h⟩)
    have HK := Lib.hid (fun W => iscut1 cap a2 l.length c2 true 24 W.heap.size _ (laid1 W (.cells #[.int .i64 cap, .slice a2 l.length c2, .bool true] 24)))
    have HKd := Lib.hid (iscut1 cap a2 l.length c2 true 24 W4.heap.size (W4.alloc (.cells #[.int .i64 cap, .slice a2 l.length c2, .bool true] 24)).drew (laid1 W4 (.cells #[.int .i64 cap, .slice a2 l.length c2, .bool true] 24)))
    have HI := Lib.hid (fun W => inside1 cap a2 l.length c2 true 24 (by omega) W.heap.size _ (laid1 W (.cells #[.int .i64 cap, .slice a2 l.length c2, .bool true] 24)))
    go_region_held3 (fun W' => ((W'.cell? ⟨w.heap.size, 1, none⟩ = some (.slice a l.length c) ∧ W'.cell? ⟨w.heap.size, 2, none⟩ = some (.bool false)) ∧ (W'.cell? ⟨A, 0, none⟩ = some (.int .i64 cap) ∧ W'.cell? ⟨A, 1, none⟩ = some (.slice a2 l.length c2) ∧ W'.cell? ⟨A, 2, none⟩ = some (.bool true))) ∧ Below W4.heap.size W4 W')
      (first | exact HSB.out _ (kept_alloc (by assumption) _) | exact HSB.out _ (kept_call (by assumption) hbC) | exact HSB.out _ (Below.refl _ _).drew)
      (first
        | (go_at_call 19; first | (with_reducible refine (HK.out _).mono ?_) | (with_reducible refine HKd.out.mono ?_)
           rintro e wC ⟨rfl, hbC⟩)
        | (go_at_call 21; with_reducible refine (HI.out _).mono ?_; rintro e wC ⟨rfl, hbC⟩))
    have hfin := (kept_call (by assumption) (Below.refl _ wC) : Below W4.heap.size W4 wC)
    have HD5 := Lib.hid ((hfin.block _ (lt_of_block HD4.out)).trans HD4.out)
    have HX5 := Lib.hid ((hfin.block _ (lt_of_block HX4.out)).trans HX4.out)
    have HB5 := Lib.hid (HB4.out.trans (hfin.mono HB4.out.size))
    have HR5 := Lib.hid (HR4.out.below hfin)
    clear hfin HSB HK HKd HI HD4 HX4 HB4 HR4 p0 p1 p2 p3 p4 p5 d0 d1 d2
    go_wp2_with fail
    go_loopw [2, 9] (fun u2 u9 wr => ∃ (k : Nat) (J : List Lt) (a5 : Option Addr) (c5 : Nat), u9 = .int .i64 k ∧ u2 = .bool false ∧ k + J.length = l.length ∧ Hid (wr.heap[w.heap.size]? = some (.cells #[.int .i64 cap, .slice a l.length c, .bool false] 24 (0, 0))) ∧ Hid (wr.heap[A]? = some (.cells #[.int .i64 cap, .slice a5 J.length c5, .bool true] 24 (0, 0))) ∧ Hid (LK.RowC wr a5 c5 J) ∧ Below w.heap.size w wr) (fun _ u _ => l.length - (intOf u).toNat)
    case atStart => exact ⟨0, l, a2, c2, rfl, rfl, by omega, HD5, HX5, HR5, HB5.out⟩
    case round =>
      obtain ⟨k, J, a5, c5, rfl, rfl, hk, hD, hX, hR, hb⟩ := hrel
      have HD := Lib.hid hD.out
      have HX := Lib.hid hX.out
      have HR := Lib.hid hR.out
      have HB := Lib.hid hb
      have hbs := hb.size
      clear hD hX hR hb HD5 HX5 HR5 HB5
      obtain ⟨⟨d0, d1, d2⟩, _⟩ := box3 HD.out
      obtain ⟨⟨x0, x1, x2⟩, _⟩ := box3 HX.out
      cases J with
      | cons m L =>
        have hk1 : k + 1 + L.length = l.length := by rw [← hk]; simp; omega
        have hlb : (k : Int) < (l.length : Int) := by omega
        have HC := Lib.hid (leave_any cap true (m :: L) 0 cap L true (.inr ⟨by simp, rfl, rfl, rfl, rfl⟩) (by omega) hcap a5 c5 wr HR.out)
        rw [List.length_cons] at HC
        go_wp2_with fail
        with_reducible refine HC.out.mono ?_
        rintro e w7 ⟨a7, c7, rfl, hL, hB⟩
        have hb7 := hB.alloc hB.size (.cells #[.int .i64 cap, .slice a7 L.length c7, .bool true] 24)
        have HD7 := Lib.hid ((hb7.block _ (lt_of_block HD.out)).trans HD.out)
        have HX7 := Lib.hid ((hb7.block _ (lt_of_block HX.out)).trans HX.out)
        have HB7 := Lib.hid (HB.out.trans (hb7.mono hbs))
        have HO7 := Lib.hid (laid1 w7 (.cells #[.int .i64 cap, .slice a7 L.length c7, .bool true] 24))
        have HL7 := Lib.hid (hL.below (below1 w7 (.cells #[.int .i64 cap, .slice a7 L.length c7, .bool true] 24)))
        have hAw := lt_of_block HX.out
        have hs7 : (w7.alloc (.cells #[.int .i64 cap, .slice a7 L.length c7, .bool true] 24)).heap.size = w7.heap.size + 1 := by simp
        clear hL hB hb7 HC d0 d1 d2 x0 x1 x2
        obtain ⟨⟨o0, o1, o2⟩, _⟩ := box3 HO7.out
        go_wp2_with fail
        generalize w7.alloc (.cells #[.int .i64 cap, .slice a7 L.length c7, .bool true] 24) = W7 at *
        have HK := Lib.hid (iscut1 cap a7 L.length c7 true 24 (w7.heap.size + 1) _ (by have h := laid1 W7 (.cells #[.int .i64 cap, .slice a7 L.length c7, .bool true] 24); rw [hs7] at h; exact h))
        with_reducible refine HK.out.mono ?_
        rintro e w8 ⟨rfl, hB⟩
        have hb8 := below1 W7 (.cells #[.int .i64 cap, .slice a7 L.length c7, .bool true] 24)
        have hb8 := hb8.trans (hB.mono hb8.size)
        have HX8 := Lib.hid ((hb8.block _ (lt_of_block HX7.out)).trans HX7.out)
        have HD8 := Lib.hid ((set3_other w8 A w.heap.size (.int .i64 cap) (.slice a7 L.length c7) (.bool true) (by omega)).trans ((hb8.block _ (lt_of_block HD7.out)).trans HD7.out))
        have HO8 := Lib.hid ((hb8.block _ (lt_of_block HO7.out)).trans HO7.out)
        have HB8 := Lib.hid (set3_below (b := A) (HB7.out.trans (hb8.mono HB7.out.size)) (by omega) (.int .i64 cap) (.slice a7 L.length c7) (.bool true))
        have HR8 := Lib.hid (set3_loose (HL7.out.below hb8) hAw (.int .i64 cap) (.slice a7 L.length c7) (.bool true)).row
        have HA8 := Lib.hid (set3_at HX8.out (.int .i64 cap) (.slice a7 L.length c7) (.bool true))
        obtain ⟨⟨x0, x1, x2⟩, x3, x4, x5⟩ := box3 HX8.out
        obtain ⟨⟨y0, y1, y2⟩, _⟩ := box3 HO8.out
        clear hB hb8 HK o0 o1 o2 HD7 HX7 HB7 HO7 HL7
        go_wp2_with fail
        go_roundw
        case rel => exact ⟨k + 1, L, a7, c7, by go_num, by trivial, hk1, HD8, HA8, HR8, HB8.out⟩
        case measure => simp [intOf]; omega
      | nil =>
        obtain rfl : k = l.length := by simpa using hk
        have HC := Lib.hid (leave_any cap true [] 51 0 [] false (.inl ⟨rfl, rfl, rfl, rfl, rfl⟩) (by simp) hcap a5 c5 wr HR.out)
        rw [List.length_nil] at *
        go_wp2_with fail
        with_reducible refine HC.out.mono ?_
        rintro e w7 ⟨a7, c7, rfl, hL, hB⟩
        have hb7 := hB.alloc hB.size (.cells #[.int .i64 0, .slice a7 0 c7, .bool false] 24)
        have HX7 := Lib.hid ((hb7.block _ (lt_of_block HX.out)).trans HX.out)
        have HB7 := Lib.hid (HB.out.trans (hb7.mono hbs))
        have hs7 : (w7.alloc (.cells #[.int .i64 0, .slice a7 0 c7, .bool false] 24)).heap.size = w7.heap.size + 1 := by simp
        clear hL hB hb7 HC d0 d1 d2 x0 x1 x2
        obtain ⟨⟨x0, x1, x2⟩, _⟩ := box3 HX7.out
        go_wp2_with fail
        generalize w7.alloc (.cells #[.int .i64 0, .slice a7 0 c7, .bool false] 24) = W7 at *
        have HI := Lib.hid (inside1 cap a5 0 c5 true 24 (by omega) (w7.heap.size + 1) _ (by have h := laid1 W7 (.cells #[.int .i64 cap, .slice a5 0 c5, .bool true] 24); rw [hs7] at h; exact h))
        with_reducible refine HI.out.mono ?_
        rintro e w8 ⟨rfl, hB⟩
        have hb8 := below1 W7 (.cells #[.int .i64 cap, .slice a5 0 c5, .bool true] 24)
        have HB8 := Lib.hid (HB7.out.trans ((hb8.trans (hB.mono hb8.size)).mono HB7.out.size))
        clear hB hb8 HI x0 x1 x2
        go_wp2_with fail
        with_reducible refine (HWk.out _).mono ?_
        rintro e w9 ⟨rfl, hB⟩
        have HB9 := Lib.hid (HB8.out.trans (hB.mono HB8.out.size))
        clear hB
        go_wp2_with fail
        go_ret
        exact ⟨rfl, HB9.out⟩
end Go.Proofs.Ytfplkjnnnbknoaa
