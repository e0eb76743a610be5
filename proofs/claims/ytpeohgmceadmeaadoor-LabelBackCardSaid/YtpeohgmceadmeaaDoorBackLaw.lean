/- LabelBack: the walk. -/
import Derived.Test.YtpeohgmceadmeaaDoorBackP
import Derived.Test.YtpeohgmceadmeaaDoorJoin
import Derived.Test.YtpeohgmceadmeaaDoorWakes
import Derived.WalkLawsBesides
set_option linter.unusedSimpArgs false
set_option linter.unusedVariables false
namespace Go.Proofs.YtpeohgmceadmeaaDoor
open Go.RowKit

set_option maxHeartbeats 16000000 in
set_option maxRecDepth 1000000 in
theorem back_small (a b : ByteArray) (n : Int) (w : World) (ha : a.size ≤ 2000) (hb : b.size ≤ 2000) (hn : -9223372036854775808 ≤ n) (hn' : n ≤ 9223372036854775807) (ht : Tab w) :
    Calls Tryd.prog 4 #[.string a, .string b, .int .i64 n] w fun e w' => e = .returned (.bool true) ∧ Below w.heap.size w w' := by
  by_cases hj : P.name b.data.toList = true ∧ P.portB n = true
  · obtain ⟨h1, h2⟩ := hj
    obtain ⟨f1, f2, f3⟩ := P.fold_name _ h1
    obtain ⟨j1, j2⟩ := joinV_yes _ _ h1 h2
    have hsj := P.split_join b.data.toList n h1 h2
    have HJ := Lib.hid (join_any b n w (by omega) hn hn' ht)
    have hjl : (P.joinV b.data.toList n).size ≤ 4000 := by
      have hr : 1 ≤ n ∧ n ≤ 65535 := by simp [P.portB] at h2; omega
      have hd := P.dec_length n.toNat (by omega) (by omega)
      have hl : b.data.toList.length = b.size := by simp
      rw [j1, size_of_list, List.length_append, f2, hl]
      simp; omega
    have HS := Lib.hid (fun w => split_any (P.joinV b.data.toList n) w hjl)
    rw [hsj] at HS
    have HF1 := Lib.hid (fun w => fold_yes b w (by omega) h1)
    have hFs : (⟨(P.foldB b.data.toList).toArray⟩ : ByteArray).size = b.size := by rw [size_of_list, f2]; simp
    have HF2 := Lib.hid (fun w => fold_yes ⟨(P.foldB b.data.toList).toArray⟩ w (by omega) f1)
    rw [show P.foldB (⟨(P.foldB b.data.toList).toArray⟩ : ByteArray).data.toList = P.foldB b.data.toList from f3] at HF2
    rw [j2] at HJ
    clear h1 h2 f1 f2 f3 j1 j2 hsj hjl
    generalize P.joinV b.data.toList n = X at *
    generalize (⟨(P.foldB b.data.toList).toArray⟩ : ByteArray) = F at *
    have hFb : ((F.size : Int) != b.size) = false := by rw [hFs]; simp
    clear hFs
    go_enter Tryd.func4, Tryd.ntmps4
    go_wp2_with fail
    have HC := HJ.out
    with_reducible refine HC.mono ?_
    clear HC HJ
    rintro e w1 ⟨rfl, hb1⟩
    go_wp2_with fail
    have HC := HS.out w1
    with_reducible refine HC.mono ?_
    clear HC HS
    rintro e w2 ⟨rfl, hb2⟩
    have hb2 := hb1.trans (hb2.mono hb1.size)
    clear hb1
    go_wp2_with fail
    have HC := HF1.out w2
    with_reducible refine HC.mono ?_
    clear HC HF1
    rintro e w3 ⟨rfl, hb3⟩
    have hb3 := hb2.trans (hb3.mono hb2.size)
    clear hb2
    go_wp2_with fail
    have HC := HF2.out w3
    with_reducible refine HC.mono ?_
    clear HC HF2
    rintro e w4 ⟨rfl, hb4⟩
    have hb4 := hb3.trans (hb4.mono hb3.size)
    clear hb3
    go_wp2_with fail
    clear hFb
    cases hE : decide ((P.split a).2.2 = 0)
    · have hE : (P.split a).2.2 ≠ 0 := of_decide_eq_false hE
      obtain ⟨t1, t2⟩ := P.split_bad a hE
      have HS := Lib.hid (split_any a w4 (by omega))
      have hEb : (((P.split a).2.2 : Int) != 0) = true := by rw [bne_iff_ne]; exact hE
      rw [t1, t2] at HS
      clear t1 t2 hE
      generalize (P.split a).2.2 = E at *
      have HC := HS.out
      with_reducible refine HC.mono ?_
      clear HC HS
      rintro e w5 ⟨rfl, hb5⟩
      have hb5 := hb4.trans (hb5.mono hb4.size)
      go_wp2_with fail
      have HC := wakes_any w5
      with_reducible refine HC.mono ?_
      clear HC
      rintro e w6 ⟨rfl, hb6⟩
      have hb6 := hb5.trans (hb6.mono hb5.size)
      go_wp2_with fail
      go_ret
      exact ⟨rfl, hb6⟩
    · have hE : (P.split a).2.2 = 0 := of_decide_eq_true hE
      obtain ⟨G, D, g1, g2, g3, g4, g5⟩ := P.join_split_key a hE
      have HS := Lib.hid (split_any a w4 (by omega))
      rw [hE, g4] at HS
      obtain ⟨p1, p2, p3⟩ := P.fold_name _ g2
      have hGD : a.size = G.length + 1 + D.length := by
        have hl : a.data.toList.length = a.size := by simp
        rw [← hl, g1]; simp; omega
      obtain ⟨N, hN⟩ : ∃ N, (P.split a).2.1 = N := ⟨_, rfl⟩
      rw [hN] at g3 g5 HS
      have hNr : 1 ≤ N ∧ N ≤ 65535 := by simp [P.portB] at g3; omega
      obtain ⟨y1, y2⟩ := joinV_yes _ _ p1 g3
      obtain ⟨z1, z2⟩ := joinV_yes _ _ g2 g3
      rw [p3] at y1
      have e1 : (a.extract 0 G.length).data.toList = G := by rw [Lib.extract_data, g1]; simp
      have HJ1 := Lib.hid (fun w h => join_any ⟨(P.foldB G).toArray⟩ N w (by rw [size_of_list, p2]; omega) (by omega) (by omega) h)
      have HJ2 := Lib.hid (fun w h => join_any (a.extract 0 G.length) N w (by simp; omega) (by omega) (by omega) h)
      rw [show (⟨(P.foldB G).toArray⟩ : ByteArray).data.toList = P.foldB G from rfl, y1, y2] at HJ1
      rw [e1, z1, z2] at HJ2
      have hYs : (((⟨(P.foldB G ++ 58 :: Lib.decDigits N.toNat).toArray⟩ : ByteArray).size : Int) == a.size) = true := by
        rw [size_of_list, List.length_append, p2, g5, beq_iff_eq, hGD]; simp; omega
      have hAs : (⟨(P.foldB G).toArray⟩ : ByteArray).size = G.length := by rw [size_of_list, p2]
      clear g1 g2 g3 g4 g5 hE p1 p2 p3 y1 y2 z1 z2 e1 hN
      generalize (⟨(P.foldB G ++ 58 :: Lib.decDigits N.toNat).toArray⟩ : ByteArray) = Y at *
      generalize (⟨(P.foldB G).toArray⟩ : ByteArray) = A at *
      have hGa : G.length ≤ a.size := by omega
      generalize G.length = g at *
      obtain ⟨hNr1, hNr2⟩ := hNr
      clear hGD
      have HA := Lib.hid hAs
      have HC := HS.out
      with_reducible refine HC.mono ?_
      clear HC HS
      rintro e w5 ⟨rfl, hb5⟩
      have hb5 := hb4.trans (hb5.mono hb4.size)
      clear hAs
      go_wp2_with fail
      have HC := HJ1.out w5 (ht.below hb5)
      with_reducible refine HC.mono ?_
      clear HC HJ1
      rintro e w6 ⟨rfl, hb6⟩
      have hb6 := hb5.trans (hb6.mono hb5.size)
      have hAs := HA.out
      have hmn : (min (g : Int) (a.size : Int)) = g := by omega
      go_wp2_with fail
      have HC := HJ2.out w6 (ht.below hb6)
      with_reducible refine HC.mono ?_
      clear HC HJ2
      rintro e w7 ⟨rfl, hb7⟩
      have hb7 := hb6.trans (hb7.mono hb6.size)
      clear hAs hmn
      go_wp2_with fail
      have HC := wakes_any w7
      with_reducible refine HC.mono ?_
      clear HC
      rintro e w8 ⟨rfl, hb8⟩
      have hb8 := hb7.trans (hb8.mono hb7.size)
      go_wp2_with fail
      go_ret
      exact ⟨rfl, hb8⟩
  · obtain ⟨j1, j2⟩ := joinE_no _ _ hj
    have HJ := Lib.hid (join_any b n w (by omega) hn hn' ht)
    rw [j1] at HJ
    rcases j2 with j2 | j2
    all_goals
      rw [j2] at HJ
      clear j1 j2 hj
      go_enter Tryd.func4, Tryd.ntmps4
      go_wp2_with fail
      have HC := HJ.out
      with_reducible refine HC.mono ?_
      clear HC HJ
      rintro e w4 ⟨rfl, hb4⟩
      go_wp2_with fail
      cases hE : decide ((P.split a).2.2 = 0)
      · have hE : (P.split a).2.2 ≠ 0 := of_decide_eq_false hE
        obtain ⟨t1, t2⟩ := P.split_bad a hE
        have HS := Lib.hid (split_any a w4 (by omega))
        have hEb : (((P.split a).2.2 : Int) != 0) = true := by rw [bne_iff_ne]; exact hE
        rw [t1, t2] at HS
        clear t1 t2 hE
        generalize (P.split a).2.2 = E at *
        have HC := HS.out
        with_reducible refine HC.mono ?_
        clear HC HS
        rintro e w5 ⟨rfl, hb5⟩
        have hb5 := hb4.trans (hb5.mono hb4.size)
        go_wp2_with fail
        have HC := wakes_any w5
        with_reducible refine HC.mono ?_
        clear HC
        rintro e w6 ⟨rfl, hb6⟩
        have hb6 := hb5.trans (hb6.mono hb5.size)
        go_wp2_with fail
        go_ret
        exact ⟨rfl, hb6⟩
      · have hE : (P.split a).2.2 = 0 := of_decide_eq_true hE
        obtain ⟨G, D, g1, g2, g3, g4, g5⟩ := P.join_split_key a hE
        have HS := Lib.hid (split_any a w4 (by omega))
        rw [hE, g4] at HS
        obtain ⟨p1, p2, p3⟩ := P.fold_name _ g2
        have hGD : a.size = G.length + 1 + D.length := by
          have hl : a.data.toList.length = a.size := by simp
          rw [← hl, g1]; simp; omega
        obtain ⟨N, hN⟩ : ∃ N, (P.split a).2.1 = N := ⟨_, rfl⟩
        rw [hN] at g3 g5 HS
        have hNr : 1 ≤ N ∧ N ≤ 65535 := by simp [P.portB] at g3; omega
        obtain ⟨y1, y2⟩ := joinV_yes _ _ p1 g3
        obtain ⟨z1, z2⟩ := joinV_yes _ _ g2 g3
        rw [p3] at y1
        have e1 : (a.extract 0 G.length).data.toList = G := by rw [Lib.extract_data, g1]; simp
        have HJ1 := Lib.hid (fun w h => join_any ⟨(P.foldB G).toArray⟩ N w (by rw [size_of_list, p2]; omega) (by omega) (by omega) h)
        have HJ2 := Lib.hid (fun w h => join_any (a.extract 0 G.length) N w (by simp; omega) (by omega) (by omega) h)
        rw [show (⟨(P.foldB G).toArray⟩ : ByteArray).data.toList = P.foldB G from rfl, y1, y2] at HJ1
        rw [e1, z1, z2] at HJ2
        have hYs : (((⟨(P.foldB G ++ 58 :: Lib.decDigits N.toNat).toArray⟩ : ByteArray).size : Int) == a.size) = true := by
          rw [size_of_list, List.length_append, p2, g5, beq_iff_eq, hGD]; simp; omega
        have hAs : (⟨(P.foldB G).toArray⟩ : ByteArray).size = G.length := by rw [size_of_list, p2]
        clear g1 g2 g3 g4 g5 hE p1 p2 p3 y1 y2 z1 z2 e1 hN
        generalize (⟨(P.foldB G ++ 58 :: Lib.decDigits N.toNat).toArray⟩ : ByteArray) = Y at *
        generalize (⟨(P.foldB G).toArray⟩ : ByteArray) = A at *
        have hGa : G.length ≤ a.size := by omega
        generalize G.length = g at *
        obtain ⟨hNr1, hNr2⟩ := hNr
        clear hGD
        have HA := Lib.hid hAs
        have HC := HS.out
        with_reducible refine HC.mono ?_
        clear HC HS
        rintro e w5 ⟨rfl, hb5⟩
        have hb5 := hb4.trans (hb5.mono hb4.size)
        clear hAs
        go_wp2_with fail
        have HC := HJ1.out w5 (ht.below hb5)
        with_reducible refine HC.mono ?_
        clear HC HJ1
        rintro e w6 ⟨rfl, hb6⟩
        have hb6 := hb5.trans (hb6.mono hb5.size)
        have hAs := HA.out
        have hmn : (min (g : Int) (a.size : Int)) = g := by omega
        go_wp2_with fail
        have HC := HJ2.out w6 (ht.below hb6)
        with_reducible refine HC.mono ?_
        clear HC HJ2
        rintro e w7 ⟨rfl, hb7⟩
        have hb7 := hb6.trans (hb7.mono hb6.size)
        clear hAs hmn
        go_wp2_with fail
        have HC := wakes_any w7
        with_reducible refine HC.mono ?_
        clear HC
        rintro e w8 ⟨rfl, hb8⟩
        have hb8 := hb7.trans (hb8.mono hb7.size)
        go_wp2_with fail
        go_ret
        exact ⟨rfl, hb8⟩
set_option maxHeartbeats 8000000 in
set_option maxRecDepth 1000000 in
theorem back_walk (a b : ByteArray) (n : Int) (w : World) (wa : a.size ≤ maxLen) (wb : b.size ≤ maxLen) (hn : -9223372036854775808 ≤ n) (hn' : n ≤ 9223372036854775807) (ht : Tab w) :
    Calls Tryd.prog 4 #[.string a, .string b, .int .i64 n] w fun e w' => e = .returned (.bool true) ∧ Below w.heap.size w w' := by
  by_cases h : 2000 < a.size ∨ 2000 < b.size
  · unfold maxLen at wa wb
    by_cases h1 : 2000 < a.size
    all_goals
      have h2 : a.size ≤ 2000 → 2000 < b.size := by omega
      have H2 := Lib.hid h2
      clear h h2
      go_enter Tryd.func4, Tryd.ntmps4
    · go_wp2_with fail
      refine (wakes_any _).mono ?_
      rintro e w1 ⟨rfl, hb1⟩
      go_wp2_with fail
      go_ret
      exact ⟨rfl, hb1⟩
    · have h3 := H2.out (by omega)
      go_wp2_with fail
      refine (wakes_any _).mono ?_
      rintro e w1 ⟨rfl, hb1⟩
      go_wp2_with fail
      go_ret
      exact ⟨rfl, hb1⟩
  · exact back_small a b n w (by omega) (by omega) hn hn' ht
end Go.Proofs.YtpeohgmceadmeaaDoor
