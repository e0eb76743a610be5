/- From some n on nothing changes; what is good is well at any time. -/
import Derived.Test.YtlceeeajhejedaaSpecs
import Derived.Test.YtlceeeajhejedaaGreat
set_option linter.unusedSimpArgs false
set_option linter.unusedVariables false
namespace Go.Proofs.Ytlceeeajhejedaa
open Go.RowKit Go.Proofs.Ytlceeeajhejedaa.Kind

set_option maxHeartbeats 4000000 in
set_option maxRecDepth 1000000 in
theorem same_eq (l : List Ad) (a b : Option Addr) (c d : Nat) (w : World) (hA : AK.RowC w a c l) (hB : AK.RowC w b d l) :
    Calls Try.prog 9 #[.slice a l.length c, .slice b l.length d] w fun e w' => e = .returned (.bool true) ∧ Below w.heap.size w w' := by
  have HA := Lib.hid hA
  have HB := Lib.hid hB
  have hmx : l.length ≤ 9223372036854775807 := by have h1 := hA.1; have h2 := hA.2.1; unfold maxLen at h2; omega
  clear hA hB
  go_enter Try.func9, Try.ntmps9
  go_wp2_with fail
  go_loopw [5] (fun i wr => ∃ k q : Nat, k ≤ l.length ∧ i = .int .i64 k ∧ wr = w.drewN q) (fun i _ => l.length - (intOf i).toNat)
  case atStart => exact ⟨0, 0, by omega, rfl, rfl⟩
  case round =>
    obtain ⟨k, q, hk, rfl, rfl⟩ := hrel
    by_cases hlt : k < l.length
    · obtain ⟨b1, o1, rfl, hb1, hat1⟩ := HA.out.2.2.2 (by omega)
      obtain ⟨b2, o2, rfl, hb2, hat2⟩ := HB.out.2.2.2 (by omega)
      obtain ⟨x, hx⟩ : ∃ x, l[k]? = some x := ⟨_, List.getElem?_eq_getElem hlt⟩
      obtain ⟨⟨c0, c1, c2, c3, c4⟩, c5, c6, c7, c8, c9⟩ := AK.ten hat1 hx
      obtain ⟨⟨d0, d1, d2, d3, d4⟩, d5, d6, d7, d8, d9⟩ := AK.ten hat2 hx
      have hnq := neq_self_ad x
      have hgd := guard_ad
      clear hx hat1 hat2
      go_wp2_with fail
      go_quiet (fail)
      go_wp2_with fail
      go_roundw
      case rel => exact ⟨k + 1, _, by omega, by go_num, rfl⟩
      case measure => simp [intOf]; omega
    · obtain rfl : k = l.length := by omega
      go_wp2_with fail
      go_ret
      exact ⟨rfl, below_drewN (Below.refl _ _) q⟩

set_option maxHeartbeats 16000000 in
set_option maxRecDepth 1000000 in
theorem planstays_walk (HAn : AnswerSpec) (HFt : FateSpec) (HGd : GoodSpec) (HWk : WakesSpec) (P : Pl) (v : Pv) (s : ByteArray) (a : Ad) (n : Int) (w : World) (hF : Fits P) (hoa : okA a) (hn : -9223372036854775808 ≤ n ∧ n ≤ 9223372036854775807) (hP : PlanC w v P) :
    Calls Try.prog 3 #[v.val P, .string s, a.v, .int .i64 n] w fun e w' => e = .returned (.bool true) ∧ Below w.heap.size w w' := by
  have HWk := Lib.hid (fun w => HWk w)
  have HGt := Lib.hid (fun w h => great_any v P w h)
  have HAn := Lib.hid (fun n w L r h1 h2 h3 => HAn P v s n w L r hF h1 h2 h3)
  have HFt := Lib.hid (fun n w r h1 h2 => HFt P v a n w r h1 h2)
  have HGd := Lib.hid (fun c d w r h1 h2 h3 => HGd P v [a] c d w r hF (by intro x hx; simp at hx; subst hx; exact hoa) h1 h2 h3)
  obtain ⟨za, zc, fa, fc, da, dc⟩ := v
  simp only [Pv.val, Ad.v] at HGt HAn HFt HGd ⊢
  simp only [List.length_cons, List.length_nil, Nat.zero_add] at HGd
  have HP := Lib.hid hP
  clear hP hF
  go_enter Try.func3, Try.ntmps3
  go_upto_region 1 with fail
  have hl2 := laid2 w (.cells #[.slice za P.zones.length zc, .slice fa P.fates.length fc, .int .i64 P.ticks, .slice da P.drops.length dc] 26) (.cells #[.int .i8 a.f, .int .u16 a.g0, .int .u16 a.g1, .int .u16 a.g2, .int .u16 a.g3, .int .u16 a.g4, .int .u16 a.g5, .int .u16 a.g6, .int .u16 a.g7, .int .i64 a.p] 31)
  have hb2 := below2 w (.cells #[.slice za P.zones.length zc, .slice fa P.fates.length fc, .int .i64 P.ticks, .slice da P.drops.length dc] 26) (.cells #[.int .i8 a.f, .int .u16 a.g0, .int .u16 a.g1, .int .u16 a.g2, .int .u16 a.g3, .int .u16 a.g4, .int .u16 a.g5, .int .u16 a.g6, .int .u16 a.g7, .int .i64 a.p] 31)
  have HX := Lib.hid hl2.1
  have HY := Lib.hid hl2.2
  have HB := Lib.hid hb2
  have HP1 := Lib.hid (HP.out.below hb2)
  obtain ⟨w1, hw1⟩ : ∃ w1, w1 = (w.alloc (.cells #[.slice za P.zones.length zc, .slice fa P.fates.length fc, .int .i64 P.ticks, .slice da P.drops.length dc] 26)).alloc (.cells #[.int .i8 a.f, .int .u16 a.g0, .int .u16 a.g1, .int .u16 a.g2, .int .u16 a.g3, .int .u16 a.g4, .int .u16 a.g5, .int .u16 a.g6, .int .u16 a.g7, .int .i64 a.p] 31) := ⟨_, rfl⟩
  rw [← hw1] at HX HY HB HP1 ⊢
  clear hl2 hb2 hw1 HP
  have hGA : w.heap.size < w1.heap.size := lt_of_block HX.out
  have hGB : w.heap.size + 1 < w1.heap.size := lt_of_block HY.out
  have hHW : ∀ W : World, Below w1.heap.size w1 W → (((W.cell? ⟨w.heap.size, 0, none⟩ = some (.slice za P.zones.length zc) ∧ W.cell? ⟨w.heap.size, 1, none⟩ = some (.slice fa P.fates.length fc) ∧ W.cell? ⟨w.heap.size, 2, none⟩ = some (.int .i64 P.ticks) ∧ W.cell? ⟨w.heap.size, 3, none⟩ = some (.slice da P.drops.length dc)) ∧
      (W.cell? ⟨w.heap.size + 1, 0, none⟩ = some (.int .i8 a.f) ∧ W.cell? ⟨w.heap.size + 1, 1, none⟩ = some (.int .u16 a.g0) ∧ W.cell? ⟨w.heap.size + 1, 2, none⟩ = some (.int .u16 a.g1) ∧ W.cell? ⟨w.heap.size + 1, 3, none⟩ = some (.int .u16 a.g2) ∧ W.cell? ⟨w.heap.size + 1, 4, none⟩ = some (.int .u16 a.g3)) ∧
      (W.cell? ⟨w.heap.size + 1, 5, none⟩ = some (.int .u16 a.g4) ∧ W.cell? ⟨w.heap.size + 1, 6, none⟩ = some (.int .u16 a.g5) ∧ W.cell? ⟨w.heap.size + 1, 7, none⟩ = some (.int .u16 a.g6) ∧ W.cell? ⟨w.heap.size + 1, 8, none⟩ = some (.int .u16 a.g7) ∧ W.cell? ⟨w.heap.size + 1, 9, none⟩ = some (.int .i64 a.p))) ∧ PlanC W ⟨za, zc, fa, fc, da, dc⟩ P) := fun W h => by
    have hx := (h.block _ hGA).trans HX.out
    have hy := (h.block _ hGB).trans HY.out
    exact ⟨⟨(box4 hx).1, (box10 hy).1, (box10 hy).2⟩, HP1.out.below h⟩
  have HW := Lib.hid hHW
  have hw0 : w.heap.size < w1.heap.size := hGA
  clear hHW hGA hGB HX HY
  obtain ⟨⟨⟨x0, x1, x2, x3⟩, ⟨y0, y1, y2, y3, y4⟩, y5, y6, y7, y8, y9⟩, _⟩ := HW.out w1 (Below.refl _ _)
  go_wp2_with fail
  with_reducible refine (HGt.out _ HP1.out).mono ?_
  rintro e w2 ⟨⟨r, rfl, _⟩, hb⟩
  have HB2 := Lib.hid hb
  clear x0 x1 x2 x3 y0 y1 y2 y3 y4 y5 y6 y7 y8 y9 hb HGt HP1
  obtain ⟨⟨⟨x0, x1, x2, x3⟩, ⟨y0, y1, y2, y3, y4⟩, y5, y6, y7, y8, y9⟩, hp2⟩ := HW.out w2 HB2.out
  have HP2 := Lib.hid hp2
  have hZl : P.zones.length ≤ 9223372036854775807 := by obtain ⟨⟨hs, h1⟩, _⟩ := hp2; have h2 := h1.1; have h3 := h1.2.1.1; have h4 := h1.2.1.2.1; dsimp only at h3 h4; unfold maxLen at h4; omega
  have hFl : P.fates.length ≤ 9223372036854775807 := by obtain ⟨_, ⟨hs, h1⟩, _⟩ := hp2; have h2 := h1.1; have h3 := h1.2.1.1; have h4 := h1.2.1.2.1; dsimp only at h3 h4; unfold maxLen at h4; omega
  clear hp2
  cases r with
  | true =>
    go_wp2_with fail
    with_reducible refine (HWk.out _).mono ?_
    rintro e w3 ⟨rfl, hb⟩
    have HBf := Lib.hid (HB.out.trans ((HB2.out.trans (hb.mono HB2.out.size)).mono HB.out.size))
    clear hb
    go_wp2_with fail
    go_ret
    exact ⟨rfl, HBf.out⟩
  | false =>
    by_cases h400 : (400 : Int) < (s.size : Int)
    · have hd1 : decide ((400 : Int) < (s.size : Int)) = true := by simp [h400]
      go_wp2_with fail
      with_reducible refine (HWk.out _).mono ?_
      rintro e w3 ⟨rfl, hb⟩
      have HBf := Lib.hid (HB.out.trans ((HB2.out.trans (hb.mono HB2.out.size)).mono HB.out.size))
      clear hb
      go_wp2_with fail
      go_ret
      exact ⟨rfl, HBf.out⟩
    · have hd1 : decide ((400 : Int) < (s.size : Int)) = false := by simp [h400]
      by_cases hn0 : n < 0
      · have hd2 : decide (n < 0) = true := by simp [hn0]
        go_wp2_with fail
        with_reducible refine (HWk.out _).mono ?_
        rintro e w3 ⟨rfl, hb⟩
        have HBf := Lib.hid (HB.out.trans ((HB2.out.trans (hb.mono HB2.out.size)).mono HB.out.size))
        clear hb
        go_wp2_with fail
        go_ret
        exact ⟨rfl, HBf.out⟩
      · have hd2 : decide (n < 0) = false := by simp [hn0]
        go_wp2_with fail
        go_loopw [9, 10] (fun u9 u10 wr => ∃ (m k : Nat), u9 = .int .i64 m ∧ u10 = .int .i64 k ∧ k ≤ P.zones.length ∧ Hid (∀ (j : Nat) (z : Zo), j < k → P.zones[j]? = some z → z.ans.length ≤ m) ∧ w2 = wr) (fun _ u _ => P.zones.length - (intOf u).toNat)
        case atStart => exact ⟨0, 0, rfl, rfl, by omega, Lib.hid (fun j z h => by omega), rfl⟩
        case round =>
          obtain ⟨m, k, rfl, rfl, hk, hm, rfl⟩ := hrel
          have HM := Lib.hid hm.out
          clear hm
          by_cases hlt : k < P.zones.length
          · have hki : (k : Int) < (P.zones.length : Int) := by omega
            obtain ⟨hs, hz⟩ := HP2.out.zones
            obtain ⟨b, hb⟩ : ∃ b, P.zones[k]? = some b := ⟨_, List.getElem?_eq_getElem hlt⟩
            obtain ⟨x, g, o, hx, e, hg, hat, hPz⟩ := hz.get hb
            dsimp only at e
            subst e
            obtain ⟨z0, z1⟩ := ZK.two hat hx
            obtain ⟨_, hln, _⟩ := hPz
            obtain ⟨xn, xa, xl, xc⟩ := x
            dsimp only at z0 z1 hln
            have HB' := Lib.hid hb
            have HLN := Lib.hid hln
            clear hz hb hx hat hg hln
            by_cases hmx : m ≤ xl
            · have hmi : (m : Int) ≤ (xl : Int) := by omega
              go_wp2_with fail
              go_roundw
              case rel => exact ⟨xl, k + 1, by first | rfl | (congr 1; omega) | go_num, by go_num, by omega, Lib.hid (fun j z hj hz => by
                rcases (show j < k ∨ j = k by omega) with h | rfl
                · have := HM.out j z h hz; omega
                · rw [HB'.out] at hz; cases hz; rw [HLN.out]; exact Nat.le_refl _), by first | rfl | trivial⟩
              case measure => simp [intOf]; omega
            · have hmi : ¬ (m : Int) ≤ (xl : Int) := by omega
              go_wp2_with fail
              go_roundw
              case rel => exact ⟨m, k + 1, by first | rfl | (congr 1; omega) | go_num, by go_num, by omega, Lib.hid (fun j z hj hz => by
                rcases (show j < k ∨ j = k by omega) with h | rfl
                · exact HM.out j z h hz
                · rw [HB'.out] at hz; cases hz; have := HLN.out; omega), by first | rfl | trivial⟩
              case measure => simp [intOf]; omega
          · obtain rfl : k = P.zones.length := by omega
            have HZ := Lib.hid (show ∀ z ∈ P.zones, z.ans.length ≤ m from fun z hz => by
              obtain ⟨j, hj, e⟩ := List.getElem_of_mem hz
              exact HM.out j z hj (by rw [List.getElem?_eq_getElem hj, e]))
            clear HM
            go_wp2_with fail
            go_loopw [9, 11] (fun u9 u11 wr => ∃ (m2 k : Nat), u9 = .int .i64 m2 ∧ u11 = .int .i64 k ∧ m ≤ m2 ∧ k ≤ P.fates.length ∧ Hid (∀ (j : Nat) (z : Fo), j < k → P.fates[j]? = some z → z.l.length ≤ m2) ∧ w2 = wr) (fun _ u _ => P.fates.length - (intOf u).toNat)
            case atStart => exact ⟨m, 0, rfl, rfl, by omega, by omega, Lib.hid (fun j z h => by omega), rfl⟩
            case round =>
              obtain ⟨m2, k, rfl, rfl, hmm2, hk, hm, rfl⟩ := hrel
              have HM := Lib.hid hm.out
              clear hm
              by_cases hlt : k < P.fates.length
              · have hki : (k : Int) < (P.fates.length : Int) := by omega
                obtain ⟨hs, hz⟩ := HP2.out.fates
                obtain ⟨b, hb⟩ : ∃ b, P.fates[k]? = some b := ⟨_, List.getElem?_eq_getElem hlt⟩
                obtain ⟨x, g, o, hx, e, hg, hat, hPz⟩ := hz.get hb
                dsimp only at e
                subst e
                have z1 := FK.last hat hx
                obtain ⟨_, hln, _⟩ := hPz
                obtain ⟨xn, xa, xl, xc⟩ := x
                dsimp only at z1 hln
                have HB' := Lib.hid hb
                have HLN := Lib.hid hln
                clear hz hb hx hat hg hln
                by_cases hmx : m2 ≤ xl
                · have hmi : (m2 : Int) ≤ (xl : Int) := by omega
                  go_wp2_with fail
                  go_roundw
                  case rel => exact ⟨xl, k + 1, by first | rfl | (congr 1; omega) | go_num, by go_num, by omega, by omega, Lib.hid (fun j z hj hz => by
                    rcases (show j < k ∨ j = k by omega) with h | rfl
                    · have := HM.out j z h hz; omega
                    · rw [HB'.out] at hz; cases hz; rw [HLN.out]; exact Nat.le_refl _), by first | rfl | trivial⟩
                  case measure => simp [intOf]; omega
                · have hmi : ¬ (m2 : Int) ≤ (xl : Int) := by omega
                  go_wp2_with fail
                  go_roundw
                  case rel => exact ⟨m2, k + 1, by first | rfl | (congr 1; omega) | go_num, by go_num, by omega, by omega, Lib.hid (fun j z hj hz => by
                    rcases (show j < k ∨ j = k by omega) with h | rfl
                    · exact HM.out j z h hz
                    · rw [HB'.out] at hz; cases hz; have := HLN.out; omega), by first | rfl | trivial⟩
                  case measure => simp [intOf]; omega
              · obtain rfl : k = P.fates.length := by omega
                have HFz := Lib.hid (show ∀ z ∈ P.fates, z.l.length ≤ m2 from fun z hz => by
                  obtain ⟨j, hj, e⟩ := List.getElem_of_mem hz
                  exact HM.out j z hj (by rw [List.getElem?_eq_getElem hj, e]))
                have HZ2 := Lib.hid (show ∀ z ∈ P.zones, z.ans.length ≤ m2 from fun z hz => Nat.le_trans (HZ.out z hz) hmm2)
                clear HM HZ
                obtain ⟨N, rfl⟩ : ∃ N : Nat, n = N := ⟨n.toNat, by omega⟩
                obtain ⟨lt, hlt1⟩ : ∃ lt : Int, lt = if N < m2 then (m2 : Int) else (N : Int) := ⟨_, rfl⟩
                have hltm : (m2 : Int) ≤ lt := by rw [hlt1]; split <;> omega
                have hLm : answerP P s lt = answerP P s m2 := answer_late (fun z hz => by have := HZ2.out z hz; omega)
                have hFm : fateP P a lt = fateP P a m2 := fate_late (fun z hz => by have := HFz.out z hz; omega)
                obtain ⟨L1, hL1⟩ : ∃ L, L = answerP P s lt := ⟨_, rfl⟩
                obtain ⟨r1, hr1⟩ : ∃ r, r = answerE P s lt := ⟨_, rfl⟩
                obtain ⟨L0, hL0⟩ : ∃ L, L = answerP P s 0 := ⟨_, rfl⟩
                obtain ⟨r0, hr0⟩ : ∃ r, r = answerE P s 0 := ⟨_, rfl⟩
                obtain ⟨f1, hf1⟩ : ∃ r, r = fateP P a lt := ⟨_, rfl⟩
                obtain ⟨f0, hf0⟩ : ∃ r, r = fateP P a 0 := ⟨_, rfl⟩
                have HA1 := Lib.hid (fun w h => HAn.out lt w L1 r1 h hL1 hr1)
                have HA2 := Lib.hid (fun w h => HAn.out m2 w L1 r1 h (hL1.trans hLm) (hr1.trans (by unfold answerE; rw [hLm])))
                have HA3 := Lib.hid (fun (q : Int) (hq : q ≤ 0) w h => HAn.out q w L0 r0 h (hL0.trans (answer_neg hq).symm) (hr0.trans (by unfold answerE; rw [answer_neg hq])))
                have HA4 := Lib.hid (fun w h => HAn.out 0 w L0 r0 h hL0 hr0)
                have HF1 := Lib.hid (fun w h => HFt.out lt w f1 h hf1)
                have HF2 := Lib.hid (fun w h => HFt.out m2 w f1 h (hf1.trans hFm))
                have HF3 := Lib.hid (fun (q : Int) (hq : q ≤ 0) w h => HFt.out q w f0 h (hf0.trans (fate_neg hq).symm))
                have HF4 := Lib.hid (fun w h => HFt.out 0 w f0 h hf0)
                have HR1 := Lib.hid (show r1 = if L1.length = 0 then 110 else 0 by rw [hr1, hL1]; rfl)
                clear hL1 hr1 hL0 hr0 hf1 hf0 hLm hFm HAn HZ2 HFz
                go_upto_region 13 with fail
                rw [← hlt1]
                clear hlt1
                go_wp2_with fail
                with_reducible refine (HA1.out _ HP2.out).mono ?_
                rintro e w3 ⟨a1, c1, rfl, hR, hb⟩
                have HR3 := Lib.hid hR
                have HB3 := Lib.hid (HB2.out.trans (hb.mono HB2.out.size))
                clear hR hb x0 x1 x2 x3 y0 y1 y2 y3 y4 y5 y6 y7 y8 y9 HP2
                obtain ⟨⟨⟨x0, x1, x2, x3⟩, ⟨y0, y1, y2, y3, y4⟩, y5, y6, y7, y8, y9⟩, hp⟩ := HW.out _ HB3.out
                have HP3 := Lib.hid hp
                clear hp
                go_wp2_with fail
                with_reducible refine (HA2.out _ HP3.out).mono ?_
                rintro e w4 ⟨a2, c2, rfl, hR, hb⟩
                have HR4 := Lib.hid hR
                have HR3' := Lib.hid (HR3.out.below hb)
                have HB4 := Lib.hid (HB3.out.trans (hb.mono HB3.out.size))
                clear hR hb x0 x1 x2 x3 y0 y1 y2 y3 y4 y5 y6 y7 y8 y9 HP3 HR3
                obtain ⟨⟨⟨x0, x1, x2, x3⟩, ⟨y0, y1, y2, y3, y4⟩, y5, y6, y7, y8, y9⟩, hp⟩ := HW.out _ HB4.out
                have HP4 := Lib.hid hp
                clear hp
                go_wp2_with fail
                with_reducible refine (HA3.out (-1 - (N : Int) % 1000) (by omega) _ HP4.out).mono ?_
                rintro e w5 ⟨a3, c3, rfl, hR, hb⟩
                have HN5 := Lib.hid hR
                have HR35 := Lib.hid (HR3'.out.below hb)
                have HR45 := Lib.hid (HR4.out.below hb)
                have HB5 := Lib.hid (HB4.out.trans (hb.mono HB4.out.size))
                clear hR hb x0 x1 x2 x3 y0 y1 y2 y3 y4 y5 y6 y7 y8 y9 HP4
                obtain ⟨⟨⟨x0, x1, x2, x3⟩, ⟨y0, y1, y2, y3, y4⟩, y5, y6, y7, y8, y9⟩, hp⟩ := HW.out _ HB5.out
                have HP5 := Lib.hid hp
                clear hp
                go_wp2_with fail
                with_reducible refine (HA4.out _ HP5.out).mono ?_
                rintro e w6 ⟨a4, c4, rfl, hR, hb⟩
                have HN6 := Lib.hid hR
                have HR36 := Lib.hid (HR35.out.below hb)
                have HR46 := Lib.hid (HR45.out.below hb)
                have HN56 := Lib.hid (HN5.out.below hb)
                have HB6 := Lib.hid (HB5.out.trans (hb.mono HB5.out.size))
                clear hR hb x0 x1 x2 x3 y0 y1 y2 y3 y4 y5 y6 y7 y8 y9 HP5
                obtain ⟨⟨⟨x0, x1, x2, x3⟩, ⟨y0, y1, y2, y3, y4⟩, y5, y6, y7, y8, y9⟩, hp⟩ := HW.out _ HB6.out
                have HP6 := Lib.hid hp
                clear hp
                have hs16 : ∀ W', Below w6.heap.size w6 W' → PlanC W' ⟨za, zc, fa, fc, da, dc⟩ P := fun W' h => (HW.out W' (HB6.out.trans (h.mono HB6.out.size))).2
                have HSB := Lib.hid (show ∀ W' : World, Below w6.heap.size w6 W' → (((W'.cell? ⟨w.heap.size, 0, none⟩ = some (.slice za P.zones.length zc) ∧ W'.cell? ⟨w.heap.size, 1, none⟩ = some (.slice fa P.fates.length fc) ∧ W'.cell? ⟨w.heap.size, 2, none⟩ = some (.int .i64 P.ticks) ∧ W'.cell? ⟨w.heap.size, 3, none⟩ = some (.slice da P.drops.length dc)) ∧
      (W'.cell? ⟨w.heap.size + 1, 0, none⟩ = some (.int .i8 a.f) ∧ W'.cell? ⟨w.heap.size + 1, 1, none⟩ = some (.int .u16 a.g0) ∧ W'.cell? ⟨w.heap.size + 1, 2, none⟩ = some (.int .u16 a.g1) ∧ W'.cell? ⟨w.heap.size + 1, 3, none⟩ = some (.int .u16 a.g2) ∧ W'.cell? ⟨w.heap.size + 1, 4, none⟩ = some (.int .u16 a.g3)) ∧
      (W'.cell? ⟨w.heap.size + 1, 5, none⟩ = some (.int .u16 a.g4) ∧ W'.cell? ⟨w.heap.size + 1, 6, none⟩ = some (.int .u16 a.g5) ∧ W'.cell? ⟨w.heap.size + 1, 7, none⟩ = some (.int .u16 a.g6) ∧ W'.cell? ⟨w.heap.size + 1, 8, none⟩ = some (.int .u16 a.g7) ∧ W'.cell? ⟨w.heap.size + 1, 9, none⟩ = some (.int .i64 a.p))) ∧ Below w6.heap.size w6 W') from fun W' h => ⟨(HW.out W' (HB6.out.trans (h.mono HB6.out.size))).1, h⟩)
                have HS1 := Lib.hid (fun W' (h : Below w6.heap.size w6 W') => same_eq L1 a1 a2 c1 c2 W' (HR36.out.below h) (HR46.out.below h))
                have HS2 := Lib.hid (fun W' (h : Below w6.heap.size w6 W') => same_eq L0 a3 a4 c3 c4 W' (HN56.out.below h) (HN6.out.below h))
                have HG1 := Lib.hid (fun W' (h : Below w6.heap.size w6 W') => HF1.out W' (hs16 W' h))
                have HG2 := Lib.hid (fun W' (h : Below w6.heap.size w6 W') => HF2.out W' (hs16 W' h))
                have hq5 : IntKind.i64.wrap (-1 - (N : Int).tmod 1000) ≤ 0 := by
                  rw [Int.tmod_eq_emod_of_nonneg (by omega), IntKind.wrap_i64]
                  omega
                have HG3 := Lib.hid (fun W' (h : Below w6.heap.size w6 W') => HF3.out (IntKind.i64.wrap (-1 - (N : Int).tmod 1000)) hq5 W' (hs16 W' h))
                have HG4 := Lib.hid (fun W' (h : Below w6.heap.size w6 W') => HF4.out W' (hs16 W' h))
                have HPl := Lib.hid hs16
                clear hq5 hs16 HF2 HF3 HF4 HA1 HA2 HA3 HA4 HR3' HR4 HR35 HR45 HN5 HB3 HB4 HB5
                go_upto_region 17 with fail
                clear x0 x1 x2 x3 y0 y1 y2 y3 y4 y5 y6 y7 y8 y9
                go_region_held3 (fun W' => (((W'.cell? ⟨w.heap.size, 0, none⟩ = some (.slice za P.zones.length zc) ∧ W'.cell? ⟨w.heap.size, 1, none⟩ = some (.slice fa P.fates.length fc) ∧ W'.cell? ⟨w.heap.size, 2, none⟩ = some (.int .i64 P.ticks) ∧ W'.cell? ⟨w.heap.size, 3, none⟩ = some (.slice da P.drops.length dc)) ∧
      (W'.cell? ⟨w.heap.size + 1, 0, none⟩ = some (.int .i8 a.f) ∧ W'.cell? ⟨w.heap.size + 1, 1, none⟩ = some (.int .u16 a.g0) ∧ W'.cell? ⟨w.heap.size + 1, 2, none⟩ = some (.int .u16 a.g1) ∧ W'.cell? ⟨w.heap.size + 1, 3, none⟩ = some (.int .u16 a.g2) ∧ W'.cell? ⟨w.heap.size + 1, 4, none⟩ = some (.int .u16 a.g3)) ∧
      (W'.cell? ⟨w.heap.size + 1, 5, none⟩ = some (.int .u16 a.g4) ∧ W'.cell? ⟨w.heap.size + 1, 6, none⟩ = some (.int .u16 a.g5) ∧ W'.cell? ⟨w.heap.size + 1, 7, none⟩ = some (.int .u16 a.g6) ∧ W'.cell? ⟨w.heap.size + 1, 8, none⟩ = some (.int .u16 a.g7) ∧ W'.cell? ⟨w.heap.size + 1, 9, none⟩ = some (.int .i64 a.p))) ∧ Below w6.heap.size w6 W'))
                  (first | assumption | exact HSB.out _ (kept_alloc (by assumption) _) | exact HSB.out _ (kept_call (by assumption) hbC) | exact HSB.out _ (Below.refl _ _).drew)
                  (first
                    | (go_at_call 9; (with_reducible refine (HS1.out _ (kept_self (by assumption))).mono ?_); rintro e wC ⟨rfl, hbC⟩)
                    | (go_at_call 9; (with_reducible refine (HS2.out _ (kept_self (by assumption))).mono ?_); rintro e wC ⟨rfl, hbC⟩)
                    | (go_at_call 10; (with_reducible refine (HG1.out _ (kept_self (by assumption))).mono ?_); rintro e wC ⟨rfl, hbC⟩)
                    | (go_at_call 10; (with_reducible refine (HG2.out _ (kept_self (by assumption))).mono ?_); rintro e wC ⟨rfl, hbC⟩)
                    | (go_at_call 10; (with_reducible refine (HG3.out _ (kept_self (by assumption))).mono ?_); rintro e wC ⟨rfl, hbC⟩)
                    | (go_at_call 10; (with_reducible refine (HG4.out _ (kept_self (by assumption))).mono ?_); rintro e wC ⟨rfl, hbC⟩))
                have HBC : Hid (Below w6.heap.size w6 wC) := Lib.hid (by first | exact kept_self (by assumption) | exact kept_call (by assumption) hbC | exact kept_call (by assumption) (Below.refl _ wC))
                have HB7 := Lib.hid (HB6.out.trans (HBC.out.mono HB6.out.size))
                clear HBC HSB HS1 HS2 HG1 HG2 HG3 HG4 HR36 HR46 HN56 HN6 HPl HP6
                obtain ⟨⟨⟨x0, x1, x2, x3⟩, ⟨y0, y1, y2, y3, y4⟩, y5, y6, y7, y8, y9⟩, hp⟩ := HW.out _ HB7.out
                have HP7 := Lib.hid hp
                clear hp
                obtain ⟨rg, hrg⟩ : ∃ r, r = goodP P [a] := ⟨_, rfl⟩
                have HGx := Lib.hid (HGd.out (some ⟨wC.heap.size, 0, none⟩) 1 (wC.alloc (.cells #[.int .i8 a.f, .int .u16 a.g0, .int .u16 a.g1, .int .u16 a.g2, .int .u16 a.g3, .int .u16 a.g4, .int .u16 a.g5, .int .u16 a.g6, .int .u16 a.g7, .int .i64 a.p] 31)) rg (HP7.out.below (below1 wC _)) (rowC_at (K := AK) wC 31 [a] #[.int .i8 a.f, .int .u16 a.g0, .int .u16 a.g1, .int .u16 a.g2, .int .u16 a.g3, .int .u16 a.g4, .int .u16 a.g5, .int .u16 a.g6, .int .u16 a.g7, .int .i64 a.p] wC.heap.size 1 rfl rfl rfl (by simp)) hrg)
                have hb8 := below1 wC (.cells #[.int .i8 a.f, .int .u16 a.g0, .int .u16 a.g1, .int .u16 a.g2, .int .u16 a.g3, .int .u16 a.g4, .int .u16 a.g5, .int .u16 a.g6, .int .u16 a.g7, .int .i64 a.p] 31)
                have HB8 := Lib.hid (HB7.out.trans (hb8.mono HB7.out.size))
                have HRG := Lib.hid hrg
                clear hb8 hrg HP7 HGd
                go_wp2_with fail
                with_reducible refine HGx.out.mono ?_
                rintro e w9 ⟨rfl, hb⟩
                have HB9 := Lib.hid (HB8.out.trans (hb.mono HB8.out.size))
                clear hb x0 x1 x2 x3 y0 y1 y2 y3 y4 y5 y6 y7 y8 y9 HGx HB8 HB7 HB6
                obtain ⟨⟨⟨x0, x1, x2, x3⟩, ⟨y0, y1, y2, y3, y4⟩, y5, y6, y7, y8, y9⟩, hp⟩ := HW.out _ HB9.out
                have HP9 := Lib.hid hp
                clear hp
                cases rg with
                | true =>
                  have HFx := Lib.hid (HFt.out (N : Int) w9 0 HP9.out (fate_good HRG.out.symm _).symm)
                  go_wp2_with fail
                  with_reducible refine HFx.out.mono ?_
                  rintro e wa ⟨rfl, hb⟩
                  have HBa := Lib.hid (HB9.out.trans (hb.mono HB9.out.size))
                  clear hb x0 x1 x2 x3 y0 y1 y2 y3 y4 y5 y6 y7 y8 y9 HFx
                  by_cases hl0 : L1.length = 0
                  · have hlz : ¬ (0 : Int) < (L1.length : Int) := by omega
                    have hlz2 : decide ((0 : Int) < (L1.length : Int)) = false := decide_eq_false hlz
                    obtain rfl : r1 = 110 := by rw [HR1.out, if_pos hl0]
                    go_wp2_with fail
                    with_reducible refine (HWk.out _).mono ?_
                    rintro e wf ⟨rfl, hb⟩
                    have HBf := Lib.hid (HB.out.trans ((HBa.out.trans (hb.mono HBa.out.size)).mono HB.out.size))
                    clear hb
                    go_wp2_with fail
                    go_ret
                    exact ⟨rfl, HBf.out⟩
                  · have hlz : (0 : Int) < (L1.length : Int) := by omega
                    have hlz2 : decide ((0 : Int) < (L1.length : Int)) = true := decide_eq_true hlz
                    obtain rfl : r1 = 0 := by rw [HR1.out, if_neg hl0]
                    go_wp2_with fail
                    with_reducible refine (HWk.out _).mono ?_
                    rintro e wf ⟨rfl, hb⟩
                    have HBf := Lib.hid (HB.out.trans ((HBa.out.trans (hb.mono HBa.out.size)).mono HB.out.size))
                    clear hb
                    go_wp2_with fail
                    go_ret
                    exact ⟨rfl, HBf.out⟩
                | false =>
                  clear x0 x1 x2 x3 y0 y1 y2 y3 y4 y5 y6 y7 y8 y9 HP9
                  by_cases hl0 : L1.length = 0
                  · have hlz : ¬ (0 : Int) < (L1.length : Int) := by omega
                    have hlz2 : decide ((0 : Int) < (L1.length : Int)) = false := decide_eq_false hlz
                    obtain rfl : r1 = 110 := by rw [HR1.out, if_pos hl0]
                    go_wp2_with fail
                    with_reducible refine (HWk.out _).mono ?_
                    rintro e wf ⟨rfl, hb⟩
                    have HBf := Lib.hid (HB.out.trans ((HB9.out.trans (hb.mono HB9.out.size)).mono HB.out.size))
                    clear hb
                    go_wp2_with fail
                    go_ret
                    exact ⟨rfl, HBf.out⟩
                  · have hlz : (0 : Int) < (L1.length : Int) := by omega
                    have hlz2 : decide ((0 : Int) < (L1.length : Int)) = true := decide_eq_true hlz
                    obtain rfl : r1 = 0 := by rw [HR1.out, if_neg hl0]
                    go_wp2_with fail
                    with_reducible refine (HWk.out _).mono ?_
                    rintro e wf ⟨rfl, hb⟩
                    have HBf := Lib.hid (HB.out.trans ((HB9.out.trans (hb.mono HB9.out.size)).mono HB.out.size))
                    clear hb
                    go_wp2_with fail
                    go_ret
                    exact ⟨rfl, HBf.out⟩
end Go.Proofs.Ytlceeeajhejedaa
