/- The open ones are those that were never shut. -/
import Derived.Test.YtdpnnmbdbfpaeaaSpecs
set_option linter.unusedSimpArgs false
set_option linter.unusedVariables false
namespace Go.Proofs.Ytdpnnmbdbfpaeaa
open Go.RowKit Go.Proofs.Ytdpnnmbdbfpaeaa.Kind

theorem all_open (S : List Sk) : (liveP S).all (openP S) = true := by
  rw [List.all_eq_true]
  intro n hn
  obtain ⟨j, x, rfl, hx, hf⟩ := sel_mem hn
  unfold openP
  rw [if_neg (by omega), Int.toNat_natCast, hx]
  exact hf
theorem open_at {S : List Sk} {i : Nat} {x : Sk} (hx : S[i]? = some x) : [(i : Int)].all (openP S) = isOpen x := by
  simp only [List.all_cons, List.all_nil, Bool.and_true]
  unfold openP
  rw [if_neg (by omega), Int.toNat_natCast, hx]
theorem open_out (S : List Sk) (n : Int) (h : n < 0 ∨ (S.length : Int) ≤ n) : [n].all (openP S) = false := by
  simp only [List.all_cons, List.all_nil, Bool.and_true]
  unfold openP
  split
  · rfl
  · rw [List.getElem?_eq_none (by omega)]

set_option maxHeartbeats 16000000 in
set_option maxRecDepth 1000000 in
theorem socklive_walk (HL : LiveSpec) (HT : TwiceSpec) (HI : IsOpenSpec) (HWk : WakesSpec) (S : List Sk) (a : Option Addr) (c : Nat) (w : World) (hA : SK.RowC w a c S) :
    Calls Try.prog 6 #[.slice a S.length c] w fun e w' => e = .returned (.bool true) ∧ Below w.heap.size w w' := by
  have HWk := Lib.hid (fun w => HWk w)
  by_cases hg : 300 < S.length
  · have HG := Lib.hid (fun w => great_any a none S.length 0 c 0 true (by simp [hg]) w)
    clear hA HL HT HI hg
    go_enter Try.func6, Try.ntmps6
    go_wp2_with fail
    with_reducible refine (HG.out _).mono ?_
    rintro e w1 ⟨rfl, rfl⟩
    go_wp2_with fail
    with_reducible refine (HWk.out _).mono ?_
    rintro e w2 ⟨rfl, hb⟩
    have HB := Lib.hid hb
    clear hb
    go_wp2_with fail
    go_ret
    exact ⟨rfl, HB.out⟩
  · have HG := Lib.hid (fun w => great_any a none S.length 0 c 0 false (by simp [hg]) w)
    have h300 : S.length ≤ 300 := by omega
    obtain ⟨L, hL⟩ : ∃ L, L = liveP S := ⟨_, rfl⟩
    obtain ⟨K, hK⟩ : ∃ K, K = twiceP S := ⟨_, rfl⟩
    have hLl : L.length ≤ S.length := by rw [hL]; exact selT_bound _ _ _ (Nat.le_refl _)
    have hKl : K.length ≤ S.length := by rw [hK]; exact selT_bound _ _ _ (Nat.le_refl _)
    have hLK : L.length + K.length ≤ S.length := by rw [hL, hK]; exact two_bound S
    have hLKi : ¬ ((S.length : Int) < (L.length : Int) + (K.length : Int)) := by omega
    have hLKj : (L.length : Int) + (K.length : Int) ≤ (S.length : Int) := by omega
    have hwr : IntKind.i64.wrap ((L.length : Int) + (K.length : Int)) = (L.length : Int) + (K.length : Int) := by rw [IntKind.wrap_i64]; omega
    have HLv := Lib.hid (fun w h => HL S L a c w (by omega) hL h)
    have HTw := Lib.hid (fun w h => HT S K a c w (by omega) hK h)
    have HIa := Lib.hid (fun b d w h1 h2 => HI S L true a b c d w (by omega) (by omega) (by rw [hL, all_open]) h1 h2)
    have HI1 := Lib.hid (fun (i : Nat) (x : Sk) (hx : S[i]? = some x) b w h1 h2 => HI S [(i : Int)] (isOpen x) a b c 1 w (by omega) (by simp) (open_at hx).symm h1 h2)
    have HI2 := Lib.hid (fun (n : Int) (hn : n < 0 ∨ (S.length : Int) ≤ n) b w h1 h2 => HI S [n] false a b c 1 w (by omega) (by simp) (open_out S n hn).symm h1 h2)
    have HA := Lib.hid hA
    have HSL := Lib.hid hL
    have HSK := Lib.hid hK
    simp only [List.length_cons, List.length_nil, Nat.zero_add] at HI1 HI2
    clear hA HL HT HI hg hL hK
    go_enter Try.func6, Try.ntmps6
    go_wp2_with fail
    with_reducible refine (HG.out _).mono ?_
    rintro e w1 ⟨rfl, rfl⟩
    go_wp2_with fail
    with_reducible refine (HLv.out _ HA.out).mono ?_
    rintro e w2 ⟨a1, c1, rfl, hI1, hb⟩
    have HR1 := Lib.hid hI1
    have HB2 := Lib.hid hb
    clear hI1 hb HLv
    go_wp2_with fail
    with_reducible refine (HTw.out _ (HA.out.below HB2.out)).mono ?_
    rintro e w3 ⟨a2, c2, rfl, hI2, hb⟩
    have HR2 := Lib.hid hI2
    have HR1' := Lib.hid (HR1.out.below hb)
    have HB3 := Lib.hid (HB2.out.trans (hb.mono HB2.out.size))
    clear hI2 hb HTw HB2 HR1
    go_wp2_with fail
    with_reducible refine (HIa.out a1 c1 w3 (HA.out.below HB3.out) HR1'.out).mono ?_
    rintro e w4 ⟨rfl, hb⟩
    have HR1 := Lib.hid (HR1'.out.below hb)
    have HR2' := Lib.hid (HR2.out.below hb)
    have HB4 := Lib.hid (HB3.out.trans (hb.mono HB3.out.size))
    clear hb HIa HB3 HR1' HR2
    go_wp2_with fail
    go_loopw [5, 6, 7] (fun u5 u6 u7 wr => ∃ i : Nat, i ≤ S.length ∧ u5 = .int .i64 ((selT isOpen S i).length : Nat) ∧ u6 = .int .i64 ((selT isTwice S i).length : Nat) ∧ u7 = .int .i64 i ∧ Hid (Below w4.heap.size w4 wr)) (fun _ _ u _ => S.length - (intOf u).toNat)
    case atStart => exact ⟨0, by omega, rfl, rfl, rfl, Lib.hid (Below.refl _ _)⟩
    case round =>
      obtain ⟨i, hi, hu5, hu6, rfl, hBr⟩ := hrel
      obtain ⟨k, hk⟩ : ∃ k, k = (selT isOpen S i).length := ⟨_, rfl⟩
      obtain ⟨j, hj⟩ : ∃ j, j = (selT isTwice S i).length := ⟨_, rfl⟩
      rw [← hk] at hu5
      rw [← hj] at hu6
      subst hu5 hu6
      have hkb : k ≤ i := by rw [hk]; exact selT_bound _ _ _ hi
      have hjb : j ≤ i := by rw [hj]; exact selT_bound _ _ _ hi
      have HBr := Lib.hid hBr.out
      have HK := Lib.hid hk
      have HJ := Lib.hid hj
      clear hBr hk hj
      by_cases hlt : i < S.length
      · obtain ⟨x, hx⟩ : ∃ x, S[i]? = some x := ⟨_, List.getElem?_eq_getElem hlt⟩
        obtain ⟨b1, o1, rfl, hb1, hat⟩ := ((HA.out.below HB4.out).below HBr.out).2.2.2 (by omega)
        have c12 := (SK.fourteen hat hx).2.2.2.2.2.2.1
        have HAr := Lib.hid ((HA.out.below HB4.out).below HBr.out)
        have hrow := rowC_at (K := IK) wr 3 [(i : Int)] #[.int .i64 i] wr.heap.size 1 rfl rfl rfl (by simp)
        have HIx := Lib.hid (HI1.out i x hx _ _ (HAr.out.below (below1 wr (.cells #[.int .i64 i] 3))) hrow)
        have HS5 := Lib.hid (selT_succ (f := isOpen) hx)
        have HS6 := Lib.hid (selT_succ (f := isTwice) hx)
        have HP := Lib.hid (sel_at (f := isOpen) hx L HSL.out)
        have HQ := Lib.hid (sel_at (f := isTwice) hx K HSK.out)
        rw [← HK.out] at HP
        rw [← HJ.out] at HQ
        have hii : (i : Int) < (S.length : Int) := by omega
        obtain ⟨xad, xby, xop, shut, xdead⟩ := x
        dsimp only at c12
        clear hat hrow hx HAr
        by_cases hopen : shut = 0
        · subst hopen
          have e1 := HP.out.1 rfl
          obtain ⟨g, og, rfl, hg, hatL⟩ := (HR1.out.below HBr.out).2.2.2 (by have := (List.getElem?_eq_some_iff.1 e1).1; omega)
          have v1 := IK.one hatL e1
          have hkL : (k : Int) < (L.length : Int) := by have := (List.getElem?_eq_some_iff.1 e1).1; omega
          have hE5 := Lib.hid (show k + 1 = (selT isOpen S (i + 1)).length by rw [HS5.out, List.length_append, ← HK.out]; rfl)
          have hE6 := Lib.hid (show j = (selT isTwice S (i + 1)).length by rw [HS6.out, List.length_append, ← HJ.out]; rfl)
          rw [show isOpen ⟨xad, xby, xop, 0, xdead⟩ = true from rfl] at HIx
          clear hatL e1 HP HS5 HS6
          by_cases hjK : j < K.length
          · obtain ⟨n, hn⟩ : ∃ n, K[j]? = some n := ⟨_, List.getElem?_eq_getElem hjK⟩
            have hne := HQ.out.2 (by rfl) n hn
            obtain ⟨g2, og2, rfl, hg2, hatK⟩ := (HR2'.out.below HBr.out).2.2.2 (by omega)
            have v2 := IK.one hatK hn
            have hjKi : (j : Int) < (K.length : Int) := by omega
            have hne2 : (n == (i : Int)) = false := by rw [beq_eq_false_iff_ne]; exact hne
            clear hatK hn HQ hne
            go_wp2_with fail
            with_reducible refine HIx.out.mono ?_
            rintro e wC ⟨rfl, hbC⟩
            have HBC := Lib.hid (HBr.out.trans (((below1 wr (.cells #[.int .i64 i] 3)).mono HBr.out.size).trans (hbC.mono (by have := HBr.out.size; simp; omega))))
            clear hbC HIx c12 v1 v2
            go_wp2_with fail
            go_roundw
            case rel => exact ⟨i + 1, by omega, by rw [← hE5.out]; go_num, by rw [← hE6.out], by go_num, HBC⟩
            case measure => simp [intOf]; omega
          · have hjKi : ¬ (j : Int) < (K.length : Int) := by omega
            clear HQ
            go_wp2_with fail
            with_reducible refine HIx.out.mono ?_
            rintro e wC ⟨rfl, hbC⟩
            have HBC := Lib.hid (HBr.out.trans (((below1 wr (.cells #[.int .i64 i] 3)).mono HBr.out.size).trans (hbC.mono (by have := HBr.out.size; simp; omega))))
            clear hbC HIx c12 v1
            go_wp2_with fail
            go_roundw
            case rel => exact ⟨i + 1, by omega, by rw [← hE5.out]; go_num, by rw [← hE6.out], by go_num, HBC⟩
            case measure => simp [intOf]; omega
        · have hs0 : (shut == 0) = false := by rw [beq_eq_false_iff_ne]; exact hopen
          have hof : isOpen ⟨xad, xby, xop, shut, xdead⟩ = false := by unfold isOpen; simp [hopen]
          rw [hof] at HIx
          have hE5 := Lib.hid (show k = (selT isOpen S (i + 1)).length by rw [HS5.out, List.length_append, ← HK.out, hof]; rfl)
          have HPn := Lib.hid (HP.out.2 hof)
          have hopenH := Lib.hid hopen
          clear HP HS5 hopen hof
          by_cases htw : 1 < shut
          · have htf : isTwice ⟨xad, xby, xop, shut, xdead⟩ = true := by unfold isTwice; simp [htw]
            have e2 := HQ.out.1 htf
            obtain ⟨g2, og2, rfl, hg2, hatK⟩ := (HR2'.out.below HBr.out).2.2.2 (by have := (List.getElem?_eq_some_iff.1 e2).1; omega)
            have v2 := IK.one hatK e2
            have hjK : (j : Int) < (K.length : Int) := by have := (List.getElem?_eq_some_iff.1 e2).1; omega
            have hE6 := Lib.hid (show j + 1 = (selT isTwice S (i + 1)).length by rw [HS6.out, List.length_append, ← HJ.out, htf]; rfl)
            clear hatK e2 HQ HS6 htf
            by_cases hkL : k < L.length
            · obtain ⟨n, hn⟩ : ∃ n, L[k]? = some n := ⟨_, List.getElem?_eq_getElem hkL⟩
              have hne := HPn.out n hn
              obtain ⟨g, og, rfl, hg, hatL⟩ := (HR1.out.below HBr.out).2.2.2 (by omega)
              have v1 := IK.one hatL hn
              have hkLi : (k : Int) < (L.length : Int) := by omega
              have hne2 : (n == (i : Int)) = false := by rw [beq_eq_false_iff_ne]; exact hne
              clear hatL hn HPn hne
              go_wp2_with fail
              with_reducible refine HIx.out.mono ?_
              rintro e wC ⟨rfl, hbC⟩
              have HBC := Lib.hid (HBr.out.trans (((below1 wr (.cells #[.int .i64 i] 3)).mono HBr.out.size).trans (hbC.mono (by have := HBr.out.size; simp; omega))))
              clear hbC HIx c12 v1 v2
              go_wp2_with fail
              go_roundw
              case rel => exact ⟨i + 1, by omega, by rw [← hE5.out], by rw [← hE6.out]; go_num, by go_num, HBC⟩
              case measure => simp [intOf]; omega
            · have hkLi : ¬ (k : Int) < (L.length : Int) := by omega
              clear HPn
              go_wp2_with fail
              with_reducible refine HIx.out.mono ?_
              rintro e wC ⟨rfl, hbC⟩
              have HBC := Lib.hid (HBr.out.trans (((below1 wr (.cells #[.int .i64 i] 3)).mono HBr.out.size).trans (hbC.mono (by have := HBr.out.size; simp; omega))))
              clear hbC HIx c12 v2
              go_wp2_with fail
              go_roundw
              case rel => exact ⟨i + 1, by omega, by rw [← hE5.out], by rw [← hE6.out]; go_num, by go_num, HBC⟩
              case measure => simp [intOf]; omega
          · have htf : isTwice ⟨xad, xby, xop, shut, xdead⟩ = false := by unfold isTwice; simp [htw]
            have HQn := Lib.hid (HQ.out.2 htf)
            have hE6 := Lib.hid (show j = (selT isTwice S (i + 1)).length by rw [HS6.out, List.length_append, ← HJ.out, htf]; rfl)
            clear HQ HS6 htf
            by_cases hkL : k < L.length
            · obtain ⟨n, hn⟩ : ∃ n, L[k]? = some n := ⟨_, List.getElem?_eq_getElem hkL⟩
              have hne := HPn.out n hn
              obtain ⟨g, og, rfl, hg, hatL⟩ := (HR1.out.below HBr.out).2.2.2 (by omega)
              have v1 := IK.one hatL hn
              have hkLi : (k : Int) < (L.length : Int) := by omega
              have hne2 : (n == (i : Int)) = false := by rw [beq_eq_false_iff_ne]; exact hne
              clear hatL hn HPn hne
              by_cases hjK : j < K.length
              · obtain ⟨n', hn'⟩ : ∃ n, K[j]? = some n := ⟨_, List.getElem?_eq_getElem hjK⟩
                have hne' := HQn.out n' hn'
                obtain ⟨g2, og2, rfl, hg2, hatK⟩ := (HR2'.out.below HBr.out).2.2.2 (by omega)
                have v2 := IK.one hatK hn'
                have hjKi : (j : Int) < (K.length : Int) := by omega
                have hne3 : (n' == (i : Int)) = false := by rw [beq_eq_false_iff_ne]; exact hne'
                clear hatK hn' HQn hne'
                go_wp2_with fail
                with_reducible refine HIx.out.mono ?_
                rintro e wC ⟨rfl, hbC⟩
                have HBC := Lib.hid (HBr.out.trans (((below1 wr (.cells #[.int .i64 i] 3)).mono HBr.out.size).trans (hbC.mono (by have := HBr.out.size; simp; omega))))
                clear hbC HIx c12
                go_wp2_with fail
                go_roundw
                case rel => exact ⟨i + 1, by omega, by rw [← hE5.out], by rw [← hE6.out], by go_num, HBC⟩
                case measure => simp [intOf]; omega
              · have hjKi : ¬ (j : Int) < (K.length : Int) := by omega
                clear HQn
                go_wp2_with fail
                with_reducible refine HIx.out.mono ?_
                rintro e wC ⟨rfl, hbC⟩
                have HBC := Lib.hid (HBr.out.trans (((below1 wr (.cells #[.int .i64 i] 3)).mono HBr.out.size).trans (hbC.mono (by have := HBr.out.size; simp; omega))))
                clear hbC HIx c12
                go_wp2_with fail
                go_roundw
                case rel => exact ⟨i + 1, by omega, by rw [← hE5.out], by rw [← hE6.out], by go_num, HBC⟩
                case measure => simp [intOf]; omega
            · have hkLi : ¬ (k : Int) < (L.length : Int) := by omega
              clear HPn
              by_cases hjK : j < K.length
              · obtain ⟨n', hn'⟩ : ∃ n, K[j]? = some n := ⟨_, List.getElem?_eq_getElem hjK⟩
                have hne' := HQn.out n' hn'
                obtain ⟨g2, og2, rfl, hg2, hatK⟩ := (HR2'.out.below HBr.out).2.2.2 (by omega)
                have v2 := IK.one hatK hn'
                have hjKi : (j : Int) < (K.length : Int) := by omega
                have hne3 : (n' == (i : Int)) = false := by rw [beq_eq_false_iff_ne]; exact hne'
                clear hatK hn' HQn hne'
                go_wp2_with fail
                with_reducible refine HIx.out.mono ?_
                rintro e wC ⟨rfl, hbC⟩
                have HBC := Lib.hid (HBr.out.trans (((below1 wr (.cells #[.int .i64 i] 3)).mono HBr.out.size).trans (hbC.mono (by have := HBr.out.size; simp; omega))))
                clear hbC HIx c12
                go_wp2_with fail
                go_roundw
                case rel => exact ⟨i + 1, by omega, by rw [← hE5.out], by rw [← hE6.out], by go_num, HBC⟩
                case measure => simp [intOf]; omega
              · have hjKi : ¬ (j : Int) < (K.length : Int) := by omega
                clear HQn
                go_wp2_with fail
                with_reducible refine HIx.out.mono ?_
                rintro e wC ⟨rfl, hbC⟩
                have HBC := Lib.hid (HBr.out.trans (((below1 wr (.cells #[.int .i64 i] 3)).mono HBr.out.size).trans (hbC.mono (by have := HBr.out.size; simp; omega))))
                clear hbC HIx c12
                go_wp2_with fail
                go_roundw
                case rel => exact ⟨i + 1, by omega, by rw [← hE5.out], by rw [← hE6.out], by go_num, HBC⟩
                case measure => simp [intOf]; omega
      · obtain rfl : i = S.length := by omega
        have hkk : k = L.length := by rw [HK.out, HSL.out]; rfl
        have hjj : j = K.length := by rw [HJ.out, HSK.out]; rfl
        subst hkk hjj
        have HAr := Lib.hid ((HA.out.below HB4.out).below HBr.out)
        have hrow := rowC_at (K := IK) wr 3 [(-1 : Int)] #[.int .i64 (-1)] wr.heap.size 1 rfl rfl rfl (by simp)
        have HI3 := Lib.hid (HI2.out (-1) (.inl (by omega)) _ _ (HAr.out.below (below1 wr (.cells #[.int .i64 (-1)] 3))) hrow)
        have HBq := Lib.hid ((HB4.out.trans (HBr.out.mono HB4.out.size)).trans ((below1 wr (.cells #[.int .i64 (-1)] 3)).mono (Nat.le_trans HB4.out.size HBr.out.size)))
        clear hrow HI1 HK HJ
        go_wp2_with fail
        with_reducible refine HI3.out.mono ?_
        rintro e w5 ⟨rfl, hb⟩
        have HB5 := Lib.hid (HBq.out.trans (hb.mono HBq.out.size))
        have HA5 := Lib.hid (HA.out.below HB5.out)
        have hrow := rowC_at (K := IK) w5 3 [(S.length : Int)] #[.int .i64 S.length] w5.heap.size 1 rfl rfl rfl (by simp)
        have HI4 := Lib.hid (HI2.out S.length (.inr (by omega)) _ _ (HA5.out.below (below1 w5 (.cells #[.int .i64 S.length] 3))) hrow)
        have HB6 := Lib.hid (HB5.out.trans ((below1 w5 (.cells #[.int .i64 S.length] 3)).mono HB5.out.size))
        clear hrow hb HI3 HI2 HBq HB5
        go_wp2_with fail
        with_reducible refine HI4.out.mono ?_
        rintro e w6 ⟨rfl, hb⟩
        have HB7 := Lib.hid (HB6.out.trans (hb.mono HB6.out.size))
        clear hb HI4 HB6
        go_wp2_with fail
        with_reducible refine (HWk.out _).mono ?_
        rintro e w7 ⟨rfl, hb⟩
        have HB8 := Lib.hid (HB7.out.trans (hb.mono HB7.out.size))
        clear hb HB7
        go_wp2_with fail
        go_ret
        exact ⟨rfl, HB8.out⟩
end Go.Proofs.Ytdpnnmbdbfpaeaa
