/- The check of a record. -/
import Derived.Test.YtdpnnmbdbfpaeaaChk
import Derived.ScopeJumps
set_option linter.unusedSimpArgs false
set_option linter.unusedVariables false
namespace Go.Proofs.Ytdpnnmbdbfpaeaa
open Go.RowKit Go.Proofs.Ytdpnnmbdbfpaeaa.Kind

theorem below_draws {B : Nat} {w w' : World} (h : Below B w w') (q : Nat) : Below B w (w'.drewN q) := below_drewN h q

set_option maxHeartbeats 16000000 in
set_option maxRecDepth 1000000 in
theorem check_spec : CheckSpec := by
  intro S M r a b c d w hS hM hlow hr hA hB
  have HA := Lib.hid hA
  have HB := Lib.hid hB
  have HR := Lib.hid hr
  have HLow := Lib.hid hlow
  have hcap : S.length ≤ c := hA.1

  have hmk := fun w => run_made_i w S.length (by omega)
  have HMl := Lib.hid (show M.length ≤ 800 from hM)
  have P1 := Lib.hid (show ChkIn S.length w (w.heap.size + 1) w.heap.size [] ((w.alloc (.cells (arrS S.length []) 3)).alloc (.cells #[.slice (some ⟨w.heap.size, 0, none⟩) S.length S.length] 42)).drew from
    ⟨(laid2 w _ _).2, (laid2 w _ _).1, by omega, by omega, by omega, (below2 w _ _).drew⟩)
  have P2 := Lib.hid (show ChkIn S.length w w.heap.size (w.heap.size + 1) [] ((w.alloc (.cells #[.slice (some ⟨w.heap.size + 1, 0, none⟩) S.length S.length] 42)).alloc (.cells (arrS S.length []) 3)).drew from
    ⟨(laid2 w _ _).1, (laid2 w _ _).2, by omega, by omega, by omega, (below2 w _ _).drew⟩)
  clear hA hB hr hlow
  go_enter Try.func11, Try.ntmps11
  go_upto_region 1 with fail
  refine wp_scope_straight ?_
  go_upto_region 1 with fail
  go_cut [5, 6] (fun s5 s6 wx => s5 = .int .i64 0 ∧ ∃ B SB : Nat, s6 = .pointer (some ⟨B, 0, none⟩) ∧ Hid (ChkIn S.length w B SB [] wx))
  case first =>
    go_region
    all_goals
      go_wp2_with fail
      go_meet
      first | exact ⟨rfl, _, _, rfl, P1⟩ | exact ⟨rfl, _, _, rfl, P2⟩
  case rest =>
    obtain ⟨rfl, B, SB, rfl, hC⟩ := hcut
    have HC := Lib.hid hC.out
    clear hC P1 P2 hmk
    go_wp2_with fail
    refine wp_label ?_
    go_wp2_with fail
    go_loopw [5, 7, 8, 10, 19, 23, 28, 46] (fun u5 u7 u8 _ u19 _ _ _ wr => ∃ (k p : Nat) (lo : Option Int) (last : Int), u5 = .int .i64 p ∧ u7 = .int .i64 last ∧ u8 = .int .i64 ((M.length : Int) - k) ∧ u19 = .int .i64 k ∧ k ≤ M.length ∧ p ≤ S.length ∧ Hid (last = lastOf lo) ∧ Hid (runG (opsOf S) (M.take k) (0, none) = some (p, lo)) ∧ Hid (ChkIn S.length w B SB (M.take k) wr)) (fun _ _ _ _ u _ _ _ _ => M.length - (intOf u).toNat)
    case atStart => exact ⟨0, 0, none, _, rfl, rfl, by simp, rfl, by omega, by omega, Lib.hid rfl, Lib.hid rfl, HC⟩
    case round =>
      obtain ⟨k, p, lo, last, rfl, rfl, rfl, rfl, hk, hp, hlast, hrun, hC⟩ := hrel
      have HLa := Lib.hid hlast.out
      have HRun := Lib.hid hrun.out
      have HQ0 := Lib.hid hC.out
      have hM8 := HMl.out
      clear hlast hrun hC HC
      by_cases hlt : k < M.length
      · obtain ⟨m, hm⟩ : ∃ m, M[k]? = some m := ⟨_, List.getElem?_eq_getElem hlt⟩
        obtain ⟨g, o, rfl, hg, hat⟩ := (HB.out.below HQ0.out.below).2.2.2 (by omega)
        obtain ⟨c0, c1, c2⟩ := NK.three hat hm
        have hlow := HLow.out m (List.mem_of_getElem? hm)
        have HMm := Lib.hid hm
        have hki : (k : Int) < (M.length : Int) := by omega
        have hleft : (0 : Int) < (M.length : Int) - k := by omega
        have hw1 : IntKind.i64.wrap ((M.length : Int) - k - 1) = (M.length : Int) - ((k + 1 : Nat) : Int) := by rw [IntKind.wrap_i64]; omega
        have hw2 : IntKind.i64.wrap ((p : Int) + 1) = ((p + 1 : Nat) : Int) := by rw [IntKind.wrap_i64]; omega
        have hb1 := below1 wr (.cells #[.bool m.shut, .int .i64 m.sock, .int .i64 m.at_] 51)
        have hl1 := laid1 wr (.cells #[.bool m.shut, .int .i64 m.sock, .int .i64 m.at_] 51)
        obtain ⟨W1, hW1⟩ : ∃ W1, W1 = wr.alloc (.cells #[.bool m.shut, .int .i64 m.sock, .int .i64 m.at_] 51) := ⟨_, rfl⟩
        have HQ := Lib.hid (HQ0.out.on hb1)
        clear hm hat
        go_upto_region 6 with fail
        rw [← hW1] at hb1 hl1 HQ ⊢
        have hWs : W1.heap.size = wr.heap.size + 1 := by rw [hW1]; simp
        have hBlt : B < wr.heap.size := lt_of_block HQ0.out.box
        have hSlt : SB < wr.heap.size := lt_of_block HQ0.out.row
        have hne : ¬ SB = wr.heap.size := by omega
        have hne2 : ¬ wr.heap.size = SB := by omega
        clear hW1 c0 c1 c2 hb1 HQ0
        obtain ⟨⟨c0, c1, c2⟩, _⟩ := box3 hl1
        have hgw : wr.heap.size < W1.heap.size := by omega
        have HL1 := Lib.hid hl1
        clear hl1
        by_cases hea : m.at_ < last
        · have HDead := Lib.hid (goes_dead HMm.out HRun.out (step_early hlow (by rw [← HLa.out]; exact hea)))
          obtain ⟨xs, hxs⟩ : ∃ xs, selN (fChk (M.take k)) S S.length = xs := ⟨_, rfl⟩
          have HN := Lib.hid (fun W (hb : Below W1.heap.size W1 W) => numbers_check S (fChk (M.take k)) xs hxs a c B W (by omega) (HA.out.below (HQ.out.below.trans (hb.mono HQ.out.below.size))) (chk_is S S.length rfl (M.take k) B SB w W (HQ.out.on hb)))
          have HXS := Lib.hid hxs
          clear hxs
          go_wp2_with fail
          have HZ := Lib.hid (show Below W1.heap.size W1 W1 from Below.refl _ _)
          with_reducible refine (HN.out _ HZ.out).mono ?_
          rintro e wy ⟨a1, c1, rfl, hI, hb⟩
          have HBf := Lib.hid (HQ.out.below.trans ((HZ.out.trans (hb.mono HZ.out.size)).mono HQ.out.below.size))
          clear hI hb HN
          clear HXS
          go_wp2_with fail
          try simp only [Exit.noGoto]
          go_ret
          exact ⟨by rw [HR.out, if_neg (by rw [HDead.out]; decide)]; rfl, HBf.out⟩
        · have HStep := Lib.hid ((run_snoc HMm.out HRun.out).trans (step_late (ops := opsOf S) (p := p) (lo := lo) (m := m) (by rw [← HLa.out]; exact hea)))
          have HDd := Lib.hid (fun h => goes_dead HMm.out HRun.out ((step_late (ops := opsOf S) (p := p) (lo := lo) (m := m) (by rw [← HLa.out]; exact hea)).trans h))
          have hea2 : decide (m.at_ < last) = false := decide_eq_false hea
          have HTk := Lib.hid (take_snoc HMm.out)
          have hnil := HA.out.2.2.1
          have hpc : (p : Int) ≤ (c : Int) := by omega
          have hp0 : (0 : Int) ≤ (p : Int) := by omega
          cases hsh : m.shut with
          | true =>
            rw [hsh] at c0
            by_cases hin : 0 ≤ m.sock ∧ m.sock < (p : Int)
            · obtain ⟨j, hj⟩ : ∃ j : Nat, m.sock = j := ⟨m.sock.toNat, by omega⟩
              have hjp : (j : Int) < (p : Int) := by omega
              have hjS : j < S.length := by omega
              have hji : (j : Int) < (S.length : Int) := by omega
              have hj0 : ¬ (j : Int) < 0 := by omega
              have HH := Lib.hid (fun w => has_any (j : Int) p a c true (by simp; omega) w)
              have b0 := (cell1 HQ.out.box).1
              obtain ⟨s0, s1⟩ := arr_cell HQ.out.row hjS
              have hsl : shutsOf (M.take k) j ≤ 800 := Nat.le_trans List.countP_le_length (by simp; omega)
              have hw3 : IntKind.i64.wrap ((shutsOf (M.take k) j : Int) + 1) = (shutsOf (M.take k) j : Int) + 1 := by rw [IntKind.wrap_i64]; omega
              rw [hj] at c1
              have HRn := Lib.hid (show runG (opsOf S) (M.take (k + 1)) (0, none) = some (p, some m.at_) by rw [HStep.out, if_pos hsh, if_pos hin])
              clear hin HStep HDd
              go_wp2_with fail
              go_quiet (first | (go_at_call 20; exact Calls.quiet_of_same (HH.out _)))
              go_wp2_with fail
              go_roundw
              case rel => exact ⟨k + 1, p, some m.at_, m.at_, by first | rfl | go_num, by first | rfl | go_num, by first | rfl | go_num, by first | rfl | go_num, by omega, by omega, Lib.hid rfl, HRn, Lib.hid (by rw [HTk.out]; exact (HQ.out.on (below_draws (Below.refl _ _) _)).shutted m j hsh hj)⟩
              case measure => simp [intOf]; omega
            · have HH := Lib.hid (fun w => has_any m.sock p a c false (by
                by_cases h : 0 ≤ m.sock
                · simp [h]; omega
                · simp [h]) w)
              have HDead := Lib.hid (HDd.out (by rw [if_pos hsh, if_neg hin]))
              clear hin HStep HDd
              go_wp2_with fail
              go_quiet (first | (go_at_call 20; exact Calls.quiet_of_same (HH.out _)))
              obtain ⟨xs, hxs⟩ : ∃ xs, selN (fChk (M.take k)) S S.length = xs := ⟨_, rfl⟩
              have HN := Lib.hid (fun W (hb : Below W1.heap.size W1 W) => numbers_check S (fChk (M.take k)) xs hxs a c B W (by omega) (HA.out.below (HQ.out.below.trans (hb.mono HQ.out.below.size))) (chk_is S S.length rfl (M.take k) B SB w W (HQ.out.on hb)))
              have HXS := Lib.hid hxs
              clear hxs
              go_wp2_with fail
              with_reducible refine (HN.out _ (below_draws (Below.refl _ _) _)).mono ?_
              rintro e wy ⟨a1, c1, rfl, hI, hb⟩
              have HBf := Lib.hid (HQ.out.below.trans (((below_draws (Below.refl W1.heap.size W1) _).trans hb).mono HQ.out.below.size))
              clear hI hb HN
              clear HXS
              go_wp2_with fail
              try simp only [Exit.noGoto]
              go_ret
              exact ⟨by rw [HR.out, if_neg (by rw [HDead.out]; decide)]; rfl, HBf.out⟩
          | false =>
            rw [hsh] at c0
            obtain ⟨q, hq⟩ : ∃ q, q = decide (m.sock = (p : Int) ∧ (opsOf S)[p]? = some m.at_) := ⟨_, rfl⟩
            have HOp := Lib.hid (fun W (hb : Below W1.heap.size W1 W) => opens_any S m p q hq a c W (by omega) hp (HA.out.below (HQ.out.below.trans (hb.mono HQ.out.below.size))))
            rw [hsh] at HOp
            have HQq := Lib.hid hq
            clear hq
            go_wp2_with fail
            go_quiet (fail)
            go_wp2_with fail
            with_reducible refine (HOp.out _ (below_draws (Below.refl _ _) _)).mono ?_
            rintro e w2 ⟨rfl, hb⟩
            have hb2 : Below W1.heap.size W1 w2 := (below_draws (Below.refl W1.heap.size W1) _).trans hb
            have d2 := (hb2.cell (p := ⟨wr.heap.size, 2, none⟩) hgw).trans c2
            have HB2 := Lib.hid hb2
            clear hb hb2 HOp c0 c1 c2
            cases q with
            | true =>
              have hcond : m.sock = (p : Int) ∧ (opsOf S)[p]? = some m.at_ := by simpa using HQq.out
              have hp1 : p < S.length := by
                have := (List.getElem?_eq_some_iff.1 hcond.2).1
                simpa [opsOf] using this
              have HRn := Lib.hid (show runG (opsOf S) (M.take (k + 1)) (0, none) = some (p + 1, some m.at_) by rw [HStep.out, if_neg (by rw [hsh]; decide), if_pos hcond])
              clear hcond HStep HDd HQq
              go_wp2_with fail
              go_roundw
              case rel => exact ⟨k + 1, p + 1, some m.at_, m.at_, by first | rfl | go_num, by first | rfl | go_num, by first | rfl | go_num, by first | rfl | go_num, by omega, by omega, Lib.hid rfl, HRn, Lib.hid (by rw [HTk.out]; exact (HQ.out.on HB2.out).opened m hsh)⟩
              case measure => simp [intOf]; omega
            | false =>
              have hcond : ¬ (m.sock = (p : Int) ∧ (opsOf S)[p]? = some m.at_) := by simpa using HQq.out
              have HDead := Lib.hid (HDd.out (by rw [if_neg (by rw [hsh]; decide), if_neg hcond]))
              clear hcond HStep HDd HQq
              obtain ⟨xs, hxs⟩ : ∃ xs, selN (fChk (M.take k)) S S.length = xs := ⟨_, rfl⟩
              have HN := Lib.hid (fun W (hb : Below W1.heap.size W1 W) => numbers_check S (fChk (M.take k)) xs hxs a c B W (by omega) (HA.out.below (HQ.out.below.trans (hb.mono HQ.out.below.size))) (chk_is S S.length rfl (M.take k) B SB w W (HQ.out.on hb)))
              have HXS := Lib.hid hxs
              clear hxs
              go_wp2_with fail
              have HZ := Lib.hid (show Below W1.heap.size W1 w2 from HB2.out)
              with_reducible refine (HN.out _ HZ.out).mono ?_
              rintro e wy ⟨a1, c1, rfl, hI, hb⟩
              have HBf := Lib.hid (HQ.out.below.trans ((HZ.out.trans (hb.mono HZ.out.size)).mono HQ.out.below.size))
              clear hI hb HN
              clear HXS
              go_wp2_with fail
              try simp only [Exit.noGoto]
              go_ret
              exact ⟨by rw [HR.out, if_neg (by rw [HDead.out]; decide)]; rfl, HBf.out⟩
      · obtain rfl : k = M.length := by omega
        have HQ := HQ0
        have hend := goes_end (S := S) (M := M) (p := p) (lo := lo) (by have := HRun.out; rwa [List.take_length] at this)
        rw [List.take_length] at HQ
        have HEnd := Lib.hid hend
        clear hend HQ0 HRun
        rcases (show p < S.length ∨ p = S.length by omega) with hpl | rfl
        · have hpi : (p : Int) < (S.length : Int) := by omega
          have HDead := Lib.hid (show goesB S M = false by
            rw [← Bool.not_eq_true, HEnd.out]
            omega)
          clear HEnd
          obtain ⟨xs, hxs⟩ : ∃ xs, selN (fChk (M)) S S.length = xs := ⟨_, rfl⟩
          have HN := Lib.hid (fun W (hb : Below wr.heap.size wr W) => numbers_check S (fChk (M)) xs hxs a c B W (by omega) (HA.out.below (HQ.out.below.trans (hb.mono HQ.out.below.size))) (chk_is S S.length rfl (M) B SB w W (HQ.out.on hb)))
          have HXS := Lib.hid hxs
          clear hxs
          go_wp2_with fail
          have HZ := Lib.hid (show Below wr.heap.size wr wr from Below.refl _ _)
          with_reducible refine (HN.out _ HZ.out).mono ?_
          rintro e wy ⟨a1, c1, rfl, hI, hb⟩
          have HBf := Lib.hid (HQ.out.below.trans ((HZ.out.trans (hb.mono HZ.out.size)).mono HQ.out.below.size))
          clear hI hb HN
          clear HXS
          go_wp2_with fail
          try simp only [Exit.noGoto]
          go_ret
          exact ⟨by rw [HR.out, if_neg (by rw [HDead.out]; decide)]; rfl, HBf.out⟩
        · obtain ⟨xs, hxs⟩ : ∃ xs, selN (fChk (M)) S S.length = xs := ⟨_, rfl⟩
          have HN := Lib.hid (fun W (hb : Below wr.heap.size wr W) => numbers_check S (fChk (M)) xs hxs a c B W (by omega) (HA.out.below (HQ.out.below.trans (hb.mono HQ.out.below.size))) (chk_is S S.length rfl (M) B SB w W (HQ.out.on hb)))
          have HXS := Lib.hid hxs
          clear hxs
          go_wp2_with fail
          have HZ := Lib.hid (show Below wr.heap.size wr wr from Below.refl _ _)
          with_reducible refine (HN.out _ HZ.out).mono ?_
          rintro e wy ⟨a1, c1, rfl, hI, hb⟩
          have HBf := Lib.hid (HQ.out.below.trans ((HZ.out.trans (hb.mono HZ.out.size)).mono HQ.out.below.size))
          clear hI hb HN
          by_cases hx0 : xs.length = 0
          · have HG := Lib.hid (HEnd.out.2 ⟨by first | rfl | trivial, by rw [HXS.out]; exact List.length_eq_zero_iff.1 hx0⟩)
            rw [hx0]
            clear HXS HEnd
            go_wp2_with fail
            try simp only [Exit.noGoto]
            go_ret
            exact ⟨by rw [HR.out, if_pos HG.out]; rfl, HBf.out⟩
          · have HDead := Lib.hid (show goesB S M = false by
              rw [← Bool.not_eq_true, HEnd.out, HXS.out]
              rintro ⟨_, h⟩
              exact hx0 (by rw [h]; rfl))
            have hxi : (0 : Int) < (xs.length : Int) := by omega
            clear HXS HEnd
            go_wp2_with fail
            try simp only [Exit.noGoto]
            go_ret
            exact ⟨by rw [HR.out, if_neg (by rw [HDead.out]; decide)]; rfl, HBf.out⟩
end Go.Proofs.Ytdpnnmbdbfpaeaa
