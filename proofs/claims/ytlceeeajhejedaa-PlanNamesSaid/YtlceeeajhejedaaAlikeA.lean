/- Whether one of a row of addresses is something; whether no two are the same. -/
import Derived.Test.YtlceeeajhejedaaAlike
set_option linter.unusedSimpArgs false
set_option linter.unusedVariables false
namespace Go.Proofs.Ytlceeeajhejedaa
open Go.RowKit Go.Proofs.Ytlceeeajhejedaa.Kind

set_option maxHeartbeats 4000000 in
set_option maxRecDepth 1000000 in
theorem index_ad (x : Ad) (l : List Ad) (m : Nat) (hm : m = l.length) (a : Option Addr) (c : Nat) (w : World) (hR : AK.RowC w a c l) :
    Calls Try.prog 64 #[.slice a m c, .agg #[.int .i8 x.f, .int .u16 x.g0, .int .u16 x.g1, .int .u16 x.g2, .int .u16 x.g3, .int .u16 x.g4, .int .u16 x.g5, .int .u16 x.g6, .int .u16 x.g7, .int .i64 x.p]] w fun e w' => e = .returned (.int .i64 (idxI (fun y => decide (x = y)) l)) ∧ Below w.heap.size w w' := by
  subst hm
  have hlen : (l.length : Int) ≤ 9223372036854775807 := len_int _ (Nat.le_trans hR.1 hR.2.1)
  obtain ⟨o1, ho1⟩ : ∃ o1 : Obj, o1 = .cells #[.int .i8 x.f, .int .u16 x.g0, .int .u16 x.g1, .int .u16 x.g2, .int .u16 x.g3, .int .u16 x.g4, .int .u16 x.g5, .int .u16 x.g6, .int .u16 x.g7, .int .i64 x.p] 31 := ⟨_, rfl⟩
  have HR := Lib.hid (hR.below (below1 w o1))
  have HB1 := Lib.hid (below1 w o1)
  have HL1 := Lib.hid (laid1 w o1)
  rw [ho1] at HR HB1 HL1
  clear hR ho1
  obtain ⟨W1, hW1⟩ : ∃ W1, W1 = w.alloc (.cells #[.int .i8 x.f, .int .u16 x.g0, .int .u16 x.g1, .int .u16 x.g2, .int .u16 x.g3, .int .u16 x.g4, .int .u16 x.g5, .int .u16 x.g6, .int .u16 x.g7, .int .i64 x.p] 31) := ⟨_, rfl⟩
  have hN : W1.heap.size = w.heap.size + 1 := by rw [hW1]; simp
  rw [← hW1] at HR HB1 HL1
  go_enter Try.func64, Try.ntmps64
  go_upto_region 1 with fail
  rw [← hW1]
  clear hW1
  go_wp2_with fail
  go_loopw [4, 8] (fun r i wr => ∃ k : Nat, r = .int .i64 0 ∧ i = .int .i64 k ∧ k ≤ l.length ∧ Hid (NoneTo (fun y => decide (x = y)) l k) ∧ Below W1.heap.size W1 wr) (fun _ i _ => l.length - (intOf i).toNat)
  case atStart => exact ⟨0, rfl, rfl, by omega, Lib.hid (noneTo_zero _ _), Below.refl _ _⟩
  case round =>
    obtain ⟨k, rfl, rfl, hk, hn, hb⟩ := hrel
    have HN := Lib.hid hn.out
    have HB := Lib.hid hb
    clear hn hb
    by_cases hki : k < l.length
    · obtain ⟨y, hy⟩ : ∃ y, l[k]? = some y := ⟨_, List.getElem?_eq_getElem hki⟩
      obtain ⟨b, o, rfl, hbl, hat⟩ := HR.out.2.2.2 (by omega)
      obtain ⟨⟨y0, y1, y2, y3, y4⟩, y5, y6, y7, y8, y9⟩ := AK.ten (hat.below HB.out hbl) hy
      obtain ⟨⟨x0, x1, x2, x3, x4⟩, x5, x6, x7, x8, x9⟩ := box10 ((HB.out.block w.heap.size (by omega)).trans HL1.out)
      have hE := eql_ad x y
      have hG := guard_ad
      have HX := Lib.hid hy
      clear hy hat
      by_cases hq : x = y
      · have hd : decide (x = y) = true := decide_eq_true hq
        rw [hd] at hE
        have HD := Lib.hid hd
        clear hd hq
        go_upto_region 4 with fail
        go_quiet (fail)
        go_wp2_with fail
        go_ret
        exact ⟨by rw [idxI_at HX.out HD.out HN.out]; rfl, HB1.out.trans ((below_drewN HB.out _).mono (by omega))⟩
      · have hd : decide (x = y) = false := decide_eq_false hq
        rw [hd] at hE
        have HD := Lib.hid hd
        clear hd hq
        go_upto_region 4 with fail
        go_quiet (fail)
        go_wp2_with fail
        go_roundw
        case rel => exact ⟨k + 1, rfl, by go_num, by omega, Lib.hid (noneTo_step HN.out HX.out HD.out), below_drewN HB.out _⟩
        case measure => simp [intOf]; omega
    · obtain rfl : k = l.length := by omega
      go_wp2_with fail
      go_ret
      exact ⟨by rw [idxI_none HN.out]; rfl, HB1.out.trans (HB.out.mono (by omega))⟩

set_option maxHeartbeats 4000000 in
set_option maxRecDepth 1000000 in
theorem has_ad (x : Ad) (l : List Ad) (m : Nat) (hm : m = l.length) (a : Option Addr) (c : Nat) (w : World) (hR : AK.RowC w a c l) :
    Calls Try.prog 46 #[.slice a m c, .agg #[.int .i8 x.f, .int .u16 x.g0, .int .u16 x.g1, .int .u16 x.g2, .int .u16 x.g3, .int .u16 x.g4, .int .u16 x.g5, .int .u16 x.g6, .int .u16 x.g7, .int .i64 x.p]] w fun e w' => e = .returned (.bool (hasB x l)) ∧ Below w.heap.size w w' := by
  obtain ⟨o1, ho1⟩ : ∃ o1 : Obj, o1 = .cells #[.int .i8 x.f, .int .u16 x.g0, .int .u16 x.g1, .int .u16 x.g2, .int .u16 x.g3, .int .u16 x.g4, .int .u16 x.g5, .int .u16 x.g6, .int .u16 x.g7, .int .i64 x.p] 31 := ⟨_, rfl⟩
  have HC := Lib.hid (index_ad x l m hm a c (w.alloc o1) (hR.below (below1 w o1)))
  have HB1 := Lib.hid (below1 w o1)
  rw [ho1] at HC HB1
  rw [← idxI_has]
  clear hR hm ho1
  go_enter Try.func46, Try.ntmps46
  go_wp2_with fail
  with_reducible refine HC.out.mono ?_
  rintro e w1 ⟨rfl, hb1⟩
  have HB2 := Lib.hid (HB1.out.trans (hb1.mono (by simp)))
  clear hb1
  go_wp2_with fail
  go_ret
  exact ⟨rfl, HB2.out⟩

set_option maxHeartbeats 8000000 in
set_option maxRecDepth 1000000 in
theorem unlike_ads (l : List Ad) (m : Nat) (hm : m = l.length) (a : Option Addr) (c : Nat) (w : World) (hR : AK.RowC w a c l) :
    Calls Try.prog 36 #[.slice a m c] w fun e w' => e = .returned (.bool (decide l.Nodup)) ∧ Below w.heap.size w w' := by
  subst hm
  have hlen : (l.length : Int) ≤ 9223372036854775807 := len_int _ (Nat.le_trans hR.1 hR.2.1)
  have hcap := hR.1
  have HR := Lib.hid hR
  clear hR
  go_enter Try.func36, Try.ntmps36
  go_wp2_with fail
  go_loopw [7] (fun i wr => ∃ k : Nat, i = .int .i64 k ∧ k ≤ l.length ∧ Hid ((l.take k).Nodup) ∧ Below w.heap.size w wr) (fun i _ => l.length - (intOf i).toNat)
  case atStart => exact ⟨0, rfl, by omega, Lib.hid (by simp), Below.refl _ _⟩
  case round =>
    obtain ⟨k, rfl, hk, hn, hb⟩ := hrel
    have HN := Lib.hid hn.out
    have HB := Lib.hid hb
    clear hn hb
    by_cases hki : k < l.length
    · obtain ⟨y, hy⟩ : ∃ y, l[k]? = some y := ⟨_, List.getElem?_eq_getElem hki⟩
      obtain ⟨b, o, rfl, hbl, hat⟩ := HR.out.2.2.2 (by omega)
      obtain ⟨⟨y0, y1, y2, y3, y4⟩, y5, y6, y7, y8, y9⟩ := AK.ten (hat.below HB.out hbl) hy
      have HX := Lib.hid hy
      clear hy hat
      go_upto_region 4 with fail
      obtain ⟨o1, ho1⟩ : ∃ o1 : Obj, o1 = .cells #[.int .i8 y.f, .int .u16 y.g0, .int .u16 y.g1, .int .u16 y.g2, .int .u16 y.g3, .int .u16 y.g4, .int .u16 y.g5, .int .u16 y.g6, .int .u16 y.g7, .int .i64 y.p] 31 := ⟨_, rfl⟩
      have HB2 := Lib.hid (HB.out.trans ((below1 wr o1).mono HB.out.size))
      have HL1 := Lib.hid (laid1 wr o1)
      rw [ho1] at HB2 HL1
      clear ho1
      obtain ⟨W1, hW1⟩ : ∃ W1, W1 = wr.alloc (.cells #[.int .i8 y.f, .int .u16 y.g0, .int .u16 y.g1, .int .u16 y.g2, .int .u16 y.g3, .int .u16 y.g4, .int .u16 y.g5, .int .u16 y.g6, .int .u16 y.g7, .int .i64 y.p] 31) := ⟨_, rfl⟩
      have hN1 : W1.heap.size = wr.heap.size + 1 := by rw [hW1]; simp
      rw [← hW1] at HB2 HL1
      try rw [← hW1]
      clear hW1
      have hsz1 : W1.heap.size = wr.heap.size + 1 := hN1
      have HS := Lib.hid (show ∀ W' : World, Below W1.heap.size W1 W' → (((W'.cell? ⟨wr.heap.size, 0, none⟩ = some (.int .i8 y.f) ∧ W'.cell? ⟨wr.heap.size, 1, none⟩ = some (.int .u16 y.g0) ∧ W'.cell? ⟨wr.heap.size, 2, none⟩ = some (.int .u16 y.g1) ∧ W'.cell? ⟨wr.heap.size, 3, none⟩ = some (.int .u16 y.g2) ∧ W'.cell? ⟨wr.heap.size, 4, none⟩ = some (.int .u16 y.g3)) ∧ W'.cell? ⟨wr.heap.size, 5, none⟩ = some (.int .u16 y.g4) ∧ W'.cell? ⟨wr.heap.size, 6, none⟩ = some (.int .u16 y.g5) ∧ W'.cell? ⟨wr.heap.size, 7, none⟩ = some (.int .u16 y.g6) ∧ W'.cell? ⟨wr.heap.size, 8, none⟩ = some (.int .u16 y.g7) ∧ W'.cell? ⟨wr.heap.size, 9, none⟩ = some (.int .i64 y.p)) ∧ Below W1.heap.size W1 W') from fun W' hb => ⟨box10 ((hb.block wr.heap.size (by omega)).trans HL1.out), hb⟩)
      have HC := Lib.hid (fun (W : World) (h : Below W1.heap.size W1 W) => has_ad y (l.take k) k (by simp; omega) (some ⟨b, o, none⟩) c W (((HR.out.take k (by omega) rfl).below HB2.out).below h))
      have HB0 := Lib.hid (Below.refl W1.heap.size W1)
      have hk0 : (0 : Int) ≤ (k : Int) := by omega
      have hkc : (k : Int) ≤ (c : Int) := by omega
      have hkl : (k : Int) ≤ (l.length : Int) := by omega
      clear y0 y1 y2 y3 y4 y5 y6 y7 y8 y9
      go_region_held3 (fun W' => ((W'.cell? ⟨wr.heap.size, 0, none⟩ = some (.int .i8 y.f) ∧ W'.cell? ⟨wr.heap.size, 1, none⟩ = some (.int .u16 y.g0) ∧ W'.cell? ⟨wr.heap.size, 2, none⟩ = some (.int .u16 y.g1) ∧ W'.cell? ⟨wr.heap.size, 3, none⟩ = some (.int .u16 y.g2) ∧ W'.cell? ⟨wr.heap.size, 4, none⟩ = some (.int .u16 y.g3)) ∧ W'.cell? ⟨wr.heap.size, 5, none⟩ = some (.int .u16 y.g4) ∧ W'.cell? ⟨wr.heap.size, 6, none⟩ = some (.int .u16 y.g5) ∧ W'.cell? ⟨wr.heap.size, 7, none⟩ = some (.int .u16 y.g6) ∧ W'.cell? ⟨wr.heap.size, 8, none⟩ = some (.int .u16 y.g7) ∧ W'.cell? ⟨wr.heap.size, 9, none⟩ = some (.int .i64 y.p)) ∧ Below W1.heap.size W1 W')
        (first | assumption | exact HS.out _ HB0.out | exact HS.out _ HB0.out.drew | exact HS.out _ HB0.out.drew.drew | exact HS.out _ HB3.out)
        (first | (go_at_call 46; with_reducible refine (HC.out _ (kept_self (by assumption))).mono ?_; rintro e w2 ⟨rfl, hb2⟩; have HB3 := Lib.hid (kept_call (by assumption) hb2)))
      have HB4 := Lib.hid (HB2.out.trans (HB3.out.mono HB2.out.size))
      by_cases hq : y ∈ l.take k
      · rw [hasB_true hq]
        have HQ := Lib.hid hq
        clear hq HC
        go_wp2_with fail
        go_ret
        exact ⟨by rw [nodup_no HX.out HQ.out]; rfl, by first | exact HB4.out | exact below_drewN HB4.out _ | exact HB4.out.drew⟩
      · rw [hasB_false hq]
        have HQ := Lib.hid hq
        clear hq HC
        go_wp2_with fail
        go_roundw
        case rel => exact ⟨k + 1, by go_num, by omega, Lib.hid (nodup_yes HX.out HQ.out HN.out), by first | exact HB4.out | exact below_drewN HB4.out _ | exact HB4.out.drew⟩
        case measure => simp [intOf]; omega
    · obtain rfl : k = l.length := by omega
      go_wp2_with fail
      go_ret
      have := HN.out
      rw [List.take_of_length_le (Nat.le_refl _)] at this
      exact ⟨by rw [decide_eq_true this]; rfl, HB.out⟩
end Go.Proofs.Ytlceeeajhejedaa
