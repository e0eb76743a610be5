/- LabelColon: the walk. -/
import Derived.Test.YtpeohgmceadmeaaDoorBackP
import Derived.Test.YtpeohgmceadmeaaDoorJoin
import Derived.Test.YtpeohgmceadmeaaDoorWakes
set_option linter.unusedSimpArgs false
set_option linter.unusedVariables false
namespace Go.Proofs.YtpeohgmceadmeaaDoor
open Go.RowKit

theorem key_byte (K : ByteArray) (F D : List UInt8) (hK : K.data.toList = F ++ 58 :: D) (k : Nat) (hk : k < K.size) :
    (k < F.length → K[k] ∈ F) ∧ (k = F.length → K[k] = 58) ∧ (F.length < k → K[k] ∈ D ∧ D.take (k - F.length) = D.take (k - F.length - 1) ++ [K[k]]) := by
  have hl : K.data.toList.length = K.size := by simp
  have hk2 : k < K.data.toList.length := by rw [hl]; exact hk
  have e : K[k] = K.data.toList[k] := by
    have : K[k] = K.data[k]'hk := rfl
    rw [this]; simp
  have hk3 : k < (F ++ 58 :: D).length := by rw [← hK]; exact hk2
  have e2 : K[k] = (F ++ 58 :: D)[k] := by rw [e]; congr 1
  refine ⟨fun h => ?_, fun h => ?_, fun h => ?_⟩
  · rw [e2, List.getElem_append_left h]; exact List.getElem_mem h
  · subst h; rw [e2, List.getElem_append_right (Nat.le_refl _)]; simp
  · obtain ⟨j, rfl⟩ : ∃ j, k = F.length + 1 + j := ⟨k - F.length - 1, by omega⟩
    have hj : j < D.length := by simp at hk3; omega
    have e3 : K[F.length + 1 + j] = D[j] := by
      rw [e2, List.getElem_append_right (by omega)]
      simp [show F.length + 1 + j - F.length = j + 1 from by omega]
    rw [e3, show F.length + 1 + j - F.length = j + 1 from by omega, Nat.add_sub_cancel]
    exact ⟨List.getElem_mem hj, List.take_succ_eq_append_getElem hj⟩

set_option maxHeartbeats 16000000 in
set_option maxRecDepth 1000000 in
theorem colon_walk (b : ByteArray) (n : Int) (w : World) (wb : b.size ≤ maxLen) (hn : -9223372036854775808 ≤ n) (hn' : n ≤ 9223372036854775807) (ht : Tab w) :
    Calls Tryd.prog 5 #[.string b, .int .i64 n] w fun e w' => e = .returned (.bool true) ∧ Below w.heap.size w w' := by
  unfold maxLen at wb
  by_cases hb : 2000 < b.size
  · go_enter Tryd.func5, Tryd.ntmps5
    go_wp2_with fail
    refine (wakes_any _).mono ?_
    rintro e w1 ⟨rfl, hb1⟩
    go_wp2_with fail
    go_ret
    exact ⟨rfl, hb1⟩
  · by_cases hj : P.name b.data.toList = true ∧ P.portB n = true
    · obtain ⟨h1, h2⟩ := hj
      obtain ⟨f1, f2, f3⟩ := P.fold_name _ h1
      obtain ⟨j1, j2⟩ := joinV_yes _ _ h1 h2
      have hr : 1 ≤ n ∧ n ≤ 65535 := by simp [P.portB] at h2; omega
      obtain ⟨d1, d2, _⟩ := P.dec_props n.toNat
      have d3 := P.dec_length n.toNat (by omega) (by omega)
      have hl : b.data.toList.length = b.size := by simp
      have hc1 := P.no_colon _ f1
      have hc2 := P.dec_no_colon n.toNat
      have HJ := Lib.hid (join_any b n w (by omega) hn hn' ht)
      rw [j2] at HJ
      generalize P.foldB b.data.toList = F at *
      generalize Lib.decDigits n.toNat = D at *
      obtain ⟨K, hK⟩ : ∃ K, P.joinV b.data.toList n = K := ⟨_, rfl⟩
      rw [hK] at j1 HJ
      have hKd : K.data.toList = F ++ 58 :: D := by rw [j1]
      have hKs : K.size = b.size + 1 + D.length := by rw [j1, size_of_list, List.length_append, f2, hl]; simp; omega
      have s1 : P.split ((⟨#[58]⟩ : ByteArray) ++ K) = (ByteArray.empty, 0, 10) := by
        have hx : ((⟨#[58]⟩ : ByteArray) ++ K).data.toList = (58 :: F) ++ 58 :: D := by simp [hKd]
        have hnm : P.name (58 :: F) = false := by
          cases h : P.name (58 :: F)
          · rfl
          · exact absurd (P.no_colon _ h) (by simp)
        rw [P.split_of _ _ _ hx hc2, hnm, if_pos rfl]
      have s2 : P.split (K ++ (⟨#[58]⟩ : ByteArray)) = (ByteArray.empty, 0, 10) := by
        have hx : (K ++ (⟨#[58]⟩ : ByteArray)).data.toList = (F ++ 58 :: D) ++ 58 :: [] := by simp [hKd]
        have hnm : P.name (F ++ 58 :: D) = false := by
          cases h : P.name (F ++ 58 :: D)
          · rfl
          · exact absurd (P.no_colon _ h) (by simp)
        rw [P.split_of _ _ _ hx (by simp), hnm, if_pos rfl]
      have hc : (⟨#[58]⟩ : ByteArray).size = 1 := rfl
      have HS1 := Lib.hid (fun w => split_any ((⟨#[58]⟩ : ByteArray) ++ K) w (by simp [hc]; omega))
      have HS2 := Lib.hid (fun w => split_any (K ++ (⟨#[58]⟩ : ByteArray)) w (by simp [hc]; omega))
      rw [s1] at HS1
      rw [s2] at HS2
      have hFl : F.length = b.size := by rw [f2, hl]
      have HB : Hid (∀ k, (hk : k < K.size) → (k < b.size → ((K[k].toNat : Int) == 58) = false) ∧ (k = b.size → ((K[k].toNat : Int) == 58) = true) ∧ (b.size < k → (((K[k].toNat : Int) == 58) = false ∧ 48 ≤ K[k].toNat ∧ K[k].toNat ≤ 57 ∧ P.val 0 (D.take (k - b.size)) = P.val 0 (D.take (k - b.size - 1)) * 10 + (K[k].toNat - 48)))) := Lib.hid (by
        intro k hk
        obtain ⟨k1, k2, k3⟩ := key_byte K F D hKd k hk
        rw [hFl] at k1 k2 k3
        refine ⟨fun h => ?_, fun h => ?_, fun h => ?_⟩
        · rw [beq_eq_false_iff_ne]
          intro h58
          have : K[k] = 58 := UInt8.toNat_inj.1 (by show K[k].toNat = 58; omega)
          exact hc1 (this ▸ k1 h)
        · rw [k2 h]; rfl
        · obtain ⟨k4, k5⟩ := k3 h
          have hdg : P.digB K[k].toNat = true := by
            unfold P.allDig at d1
            rw [List.all_eq_true] at d1
            exact d1 _ k4
          have h6 := (P.digB_nat _).1 hdg
          refine ⟨?_, h6.1, h6.2, ?_⟩
          · rw [beq_eq_false_iff_ne]; omega
          · rw [k5, P.val_snoc, Nat.mul_comm])
      have HD : Hid (P.val 0 (D.take (K.size - b.size - 1)) = n.toNat) := Lib.hid (by rw [show K.size - b.size - 1 = D.length from by omega, List.take_length]; exact d2)
      have hDl : K.size ≤ b.size + 6 := by omega
      have hDm : b.size < K.size := by omega
      clear h1 h2 f1 f2 f3 j1 j2 d1 d2 hl hc1 hc2 hK hKd hKs s1 s2 hFl
      obtain ⟨hr1, hr2⟩ := hr
      go_enter Tryd.func5, Tryd.ntmps5
      go_wp2_with fail
      have HC := HJ.out
      with_reducible refine HC.mono ?_
      clear HC HJ
      rintro e w1 ⟨rfl, hb1⟩
      go_wp2_with fail
      go_loop [7, 8, 9, 10] (fun at' many num i => ∃ k : Nat, i = .int .i64 k ∧ k ≤ K.size ∧ ((k ≤ b.size ∧ at' = .int .i64 (-1) ∧ many = .int .i64 0 ∧ num = .int .i64 0) ∨ (b.size < k ∧ at' = .int .i64 b.size ∧ many = .int .i64 1 ∧ ∃ q : Nat, num = .int .i64 q ∧ (k = b.size + 1 ∧ q = 0 ∨ k = b.size + 2 ∧ q ≤ 9 ∨ k = b.size + 3 ∧ q ≤ 99 ∨ k = b.size + 4 ∧ q ≤ 999 ∨ k = b.size + 5 ∧ q ≤ 9999 ∨ k = b.size + 6 ∧ q ≤ 99999) ∧ Hid (q = P.val 0 (D.take (k - b.size - 1)))))) (fun _ _ _ i => K.size - (intOf i).toNat)
      case atStart => exact ⟨0, rfl, by omega, .inl ⟨by omega, rfl, rfl, rfl⟩⟩
      case round =>
        obtain ⟨k, rfl, hk, hph⟩ := hrel
        by_cases hlt : k < K.size
        · have HB2 := Lib.hid (HB.out k hlt)
          rcases hph with ⟨hkb, rfl, rfl, rfl⟩ | ⟨hkb, rfl, rfl, q, rfl, hq, hv⟩
          · by_cases hkf : k < b.size
            · have hby := HB2.out.1 hkf
              go_wp2_with fail
              go_round
              case rel => exact ⟨k + 1, by go_num, by omega, .inl ⟨by omega, rfl, rfl, rfl⟩⟩
              case measure => simp [intOf]; omega
            · have hkf2 : k = b.size := by omega
              have hby := HB2.out.2.1 hkf2
              have HK2 := Lib.hid hkf2
              clear hkf2
              go_wp2_with fail
              go_round
              case rel => exact ⟨k + 1, by go_num, by omega, .inr ⟨by omega, by rw [← HK2.out], rfl, 0, rfl, by omega, Lib.hid (by rw [HK2.out, show b.size + 1 - b.size - 1 = 0 from by omega]; rfl)⟩⟩
              case measure => simp [intOf]; omega
          · obtain ⟨hby, h48, h57, hvv⟩ := HB2.out.2.2 hkb
            have HVV := Lib.hid hvv
            have H48 := Lib.hid (And.intro h48 h57)
            clear hvv h48 h57
            go_wp2_with fail
            go_round
            case rel =>
              refine ⟨k + 1, by go_num, by omega, .inr ⟨by omega, rfl, rfl, q * 10 + (K[k].toNat - 48), ?_, ?_, Lib.hid ?_⟩⟩
              · have h := H48.out; go_num
              · have h := H48.out; omega
              · rw [show k + 1 - b.size - 1 = k - b.size from by omega, HVV.out, hv.out]
            case measure => simp [intOf]; omega
        · obtain rfl : k = K.size := by omega
          rcases hph with ⟨hkb, _⟩ | ⟨hkb, rfl, rfl, q, rfl, hq, hv⟩
          · omega
          · have hqn : q = n.toNat := by rw [hv.out, HD.out]
            have hqn2 : ((q : Int) == n) = true := by rw [beq_iff_eq]; omega
            clear hv hqn hq
            go_wp2_with fail
            have HC := HS1.out w1
            with_reducible refine HC.mono ?_
            clear HC
            rintro e w2 ⟨rfl, hb2⟩
            have hb2 := hb1.trans (hb2.mono hb1.size)
            go_wp2_with fail
            have HC := HS2.out w2
            with_reducible refine HC.mono ?_
            clear HC
            rintro e w3 ⟨rfl, hb3⟩
            have hb3 := hb2.trans (hb3.mono hb2.size)
            go_wp2_with fail
            have HC := wakes_any w3
            with_reducible refine HC.mono ?_
            clear HC
            rintro e w4 ⟨rfl, hb4⟩
            have hb4 := hb3.trans (hb4.mono hb3.size)
            go_wp2_with fail
            go_ret
            exact ⟨rfl, hb4⟩
    · obtain ⟨j1, j2⟩ := joinE_no _ _ hj
      have HJ := Lib.hid (join_any b n w (by omega) hn hn' ht)
      rw [j1] at HJ
      rcases j2 with j2 | j2
      all_goals
        rw [j2] at HJ
        clear j1 j2 hj
        go_enter Tryd.func5, Tryd.ntmps5
        go_wp2_with fail
        have HC := HJ.out
        with_reducible refine HC.mono ?_
        clear HC HJ
        rintro e w1 ⟨rfl, hb1⟩
        go_wp2_with fail
        have HC := wakes_any w1
        with_reducible refine HC.mono ?_
        clear HC
        rintro e w4 ⟨rfl, hb4⟩
        have hb4 := hb1.trans (hb4.mono hb1.size)
        go_wp2_with fail
        go_ret
        exact ⟨rfl, hb4⟩
end Go.Proofs.YtpeohgmceadmeaaDoor
