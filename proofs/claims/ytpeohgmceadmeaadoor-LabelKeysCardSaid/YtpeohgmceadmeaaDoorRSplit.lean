/- Keys: the document's Split. -/
import Derived.Test.YtpeohgmceadmeaaDoorRKeys
set_option linter.unusedSimpArgs false
set_option linter.unusedVariables false
namespace Go.Proofs.YtpeohgmceadmeaaDoor
open Go.RowKit

theorem take_dig (s : ByteArray) (pos : Nat) (hp : pos < s.size) (h : P.allDig (s.data.toList.take pos) = true) (hd : P.digB s[pos].toNat = true) : P.allDig (s.data.toList.take (pos + 1)) = true := by
  have : pos < s.data.toList.length := by simpa using hp
  rw [List.take_succ_eq_append_getElem this]
  unfold P.allDig at h ⊢
  rw [List.all_append, h]
  have hd' : P.digB (s.data[pos]'(by simpa using this)).toNat = true := hd
  simpa using hd'
theorem no_dig (s : ByteArray) (pos : Nat) (hp : pos < s.size) (hd : P.digB s[pos].toNat = false) : P.allDig s.data.toList = false := by
  unfold P.allDig
  rw [List.all_eq_false]
  exact ⟨s[pos], by rw [← Array.mem_def] <;> exact Array.getElem_mem hp, by simp [hd]⟩
theorem port_zero (s : ByteArray) (h : s.size < 1 ∨ 5 < s.size ∨ P.allDig s.data.toList = false ∨ s.data.toList.head? = some 48) : P.port s.data.toList = 0 := by
  have hl : s.data.toList.length = s.size := by simp
  cases hs : s.data.toList with
  | nil => rfl
  | cons b l =>
    rw [hs] at h hl
    rcases h with h | h | h | h
    · simp at hl; omega
    · exact P.port_long _ (by omega)
    · rw [P.port_eq, h, if_neg (by simp)]
    · simp at h; subst h
      rw [P.port_eq, if_neg (by simp)]
theorem port_value (s : ByteArray) (hp : 0 < s.size) (h0 : s[0] ≠ 48) (h1 : P.allDig s.data.toList = true) :
    P.port s.data.toList = if P.val 0 s.data.toList ≤ 65535 then P.val 0 s.data.toList else 0 := by
  have hd := drop_at s 0 hp
  rw [List.drop_zero] at hd
  rw [hd] at h1 ⊢
  rw [P.port_eq, h1]
  simp [h0]

set_option maxHeartbeats 4000000 in
set_option maxRecDepth 1000000 in
theorem rport_any (s : ByteArray) (w : World) (hs : s.size ≤ 4000) :
    Calls Tryd.prog 16 #[.string s] w fun e w' => e = .returned (.int .i64 (P.port s.data.toList)) ∧ w = w' := by
  by_cases hz : s.size < 1
  · have H0 := Lib.hid (port_zero s (.inl hz))
    go_enter Tryd.func16, Tryd.ntmps16
    go_wp2_with fail
    go_ret
    exact ⟨by rw [H0.out]; rfl, rfl⟩
  · by_cases h5 : 5 < s.size
    · have H0 := Lib.hid (port_zero s (.inr (.inl h5)))
      go_enter Tryd.func16, Tryd.ntmps16
      go_wp2_with fail
      go_ret
      exact ⟨by rw [H0.out]; rfl, rfl⟩
    · have hp0 : 0 < s.size := by omega
      have hd0 := drop_at s 0 hp0
      by_cases h48 : s[0] = 48
      · have H0 := Lib.hid (port_zero s (.inr (.inr (.inr (by rw [List.drop_zero] at hd0; rw [hd0, h48]; rfl)))))
        have hb : ((s[0].toNat : Int) == 48) = true := by rw [h48]; rfl
        clear hd0 h48
        go_enter Tryd.func16, Tryd.ntmps16
        go_wp2_with fail
        go_ret
        exact ⟨by rw [H0.out]; rfl, rfl⟩
      · have hb : ((s[0].toNat : Int) == 48) = false := by
          rw [beq_eq_false_iff_ne]
          intro h
          exact h48 (UInt8.toNat_inj.1 (by show s[0].toNat = 48; omega))
        have HV := Lib.hid (port_value s hp0 h48)
        have HZ := Lib.hid (fun pos hp hd => port_zero s (.inr (.inr (.inl (no_dig s pos hp hd)))))
        have hlen : s.data.toList.length = s.size := by simp
        have HL := Lib.hid hlen
        clear hd0 h48 hlen
        go_enter Tryd.func16, Tryd.ntmps16
        go_wp2_with fail
        go_loop [3, 4] (fun x i => ∃ pos q : Nat, i = .int .i64 pos ∧ x = .int .i64 q ∧ pos ≤ s.size ∧ (pos = 0 ∧ q = 0 ∨ pos = 1 ∧ q ≤ 9 ∨ pos = 2 ∧ q ≤ 99 ∨ pos = 3 ∧ q ≤ 999 ∨ pos = 4 ∧ q ≤ 9999 ∨ pos = 5 ∧ q ≤ 99999) ∧ Hid (P.allDig (s.data.toList.take pos) = true ∧ P.val q (s.data.toList.drop pos) = P.val 0 s.data.toList)) (fun _ i => s.size - (intOf i).toNat)
        case atStart => exact ⟨0, 0, rfl, rfl, by omega, by omega, Lib.hid ⟨rfl, rfl⟩⟩
        case round =>
          obtain ⟨pos, q, rfl, rfl, hp', hq, hv⟩ := hrel
          by_cases hp : pos < s.size
          · have HD := Lib.hid (drop_at s pos hp)
            have HT := Lib.hid (take_dig s pos hp hv.out.1)
            have HZ2 := Lib.hid (HZ.out pos hp)
            go_wp2_with fail
            all_goals first
              | (go_ret
                 exact ⟨by rw [HZ2.out (by simp [P.digB]; omega)]; rfl, rfl⟩)
              | (go_round
                 case rel =>
                   have hdg : P.digB s[pos].toNat = true := by simp [P.digB]; omega
                   refine ⟨pos + 1, q * 10 + (s[pos].toNat - 48), by go_num, by go_num, by omega, by omega, Lib.hid ⟨HT.out hdg, ?_⟩⟩
                   have h := hv.out.2
                   rw [HD.out, P.val_cons, Nat.mul_comm 10 q] at h
                   exact h
                 case measure => simp [intOf]; omega)
          · obtain rfl : pos = s.size := by omega
            have hE : P.allDig s.data.toList = true ∧ q = P.val 0 s.data.toList := by
              obtain ⟨h1, h2⟩ := hv.out
              rw [← HL.out, List.take_length] at h1
              rw [← HL.out, List.drop_length] at h2
              exact ⟨h1, by rw [← h2]; rfl⟩
            have hP := HV.out hE.1
            rw [← hE.2] at hP
            have HP := Lib.hid hP
            clear hE hP hv
            by_cases hq2 : 65535 < q
            all_goals
              go_wp2_with fail
              go_ret
              first | exact ⟨by rw [HP.out, if_neg (by omega)]; rfl, rfl⟩ | exact ⟨by rw [HP.out, if_pos (by omega)]; rfl, rfl⟩
set_option maxHeartbeats 4000000 in
set_option maxRecDepth 1000000 in
theorem rsplit_any (s : ByteArray) (w : World) (hs : s.size ≤ 4000) :
    Calls Tryd.prog 8 #[.string s] w fun e w' => e = .returned (.tuple #[.string (P.split s).1, .int .i64 (P.split s).2.1, .int .i64 (P.split s).2.2]) ∧ Below w.heap.size w w' := by
  have hsp := Lib.lastIndexByte_spec s 58
  have hb0 : -1 ≤ Lib.lastIndexByte s 58 ∧ Lib.lastIndexByte s 58 ≤ 4000 := by rcases hsp with ⟨h, _⟩ | ⟨i, hi, h, _⟩ <;> omega
  have hstep : ∀ k, (h : k < s.size) → Lib.lastIdx s 58 (k + 1) = if (s[k].toNat : Int) = 58 then (k : Int) else Lib.lastIdx s 58 k := by
    intro k h
    rw [Lib.lastIdx]
    have e : s.data[k]! = s[k] := by
      have h' : k < s.data.size := h
      rw [getElem!_pos s.data k h']; rfl
    rw [e]
  have HST := Lib.hid hstep
  have hrange : ∀ k, k ≤ s.size → -1 ≤ Lib.lastIdx s 58 k ∧ Lib.lastIdx s 58 k ≤ 4000 := by
    intro k hk
    rcases Lib.lastIdx_spec s 58 k with ⟨h, _⟩ | ⟨i, hi, h, _⟩ <;> omega
  have HRG := Lib.hid hrange
  have HAT := Lib.hid (show Lib.lastIdx s 58 s.size = Lib.lastIndexByte s 58 from rfl)
  by_cases h0 : Lib.lastIndexByte s 58 < 0
  · have HS := Lib.hid (show P.split s = (ByteArray.empty, 0, 10) by rw [P.split, if_pos h0])
    have hv : Lib.lastIndexByte s 58 = -1 := by omega
    have HV := Lib.hid hv
    clear hsp h0 hv hb0 hstep hrange
    go_enter Tryd.func8, Tryd.ntmps8
    go_wp2_with fail
    go_loop [5, 6] (fun x i => ∃ k : Nat, ∃ q : Int, k ≤ s.size ∧ i = .int .i64 k ∧ x = .int .i64 q ∧ Hid (q = Lib.lastIdx s 58 k)) (fun _ i => s.size - (intOf i).toNat)
    case atStart => exact ⟨0, -1, by omega, rfl, rfl, Lib.hid rfl⟩
    case round =>
      obtain ⟨k, q, hk, rfl, rfl, hq⟩ := hrel
      by_cases hlt : k < s.size
      · have HS2 := Lib.hid (HST.out k hlt)
        go_wp2_with fail
        all_goals go_round
        all_goals first
          | (case rel => exact ⟨k + 1, k, by omega, by go_num, rfl, Lib.hid (by rw [HS2.out, if_pos (by simp_all)])⟩)
          | (case rel => exact ⟨k + 1, q, by omega, by go_num, rfl, Lib.hid (by rw [HS2.out, if_neg (by simp_all)]; exact hq.out)⟩)
          | (case measure => simp [intOf]; omega)
      · obtain rfl : k = s.size := by omega
        obtain rfl : q = -1 := by rw [hq.out, HAT.out, HV.out]
        go_wp2_with fail
        go_ret3
        exact ⟨by rw [HS.out]; rfl, Below.refl _ _⟩
  · obtain ⟨k0, hk0, hke⟩ : ∃ k : Nat, k < s.size ∧ Lib.lastIndexByte s 58 = k := by
      rcases hsp with ⟨h, _⟩ | ⟨i, hi, h, _⟩
      · omega
      · exact ⟨i, hi, h⟩
    have e1 : (s.extract 0 k0).data.toList = s.data.toList.take k0 := by rw [Lib.extract_data]; simp
    have e2 : (s.extract 0 k0).size = k0 := by simp; omega
    have e3 : (s.extract (k0 + 1) s.size).data.toList = s.data.toList.drop (k0 + 1) := by rw [Lib.extract_data, List.take_of_length_le (by simp)]
    have e4 : (s.extract (k0 + 1) s.size).size ≤ s.size := by simp
    have hS : P.split s = if P.name (s.data.toList.take k0) = false then (ByteArray.empty, 0, 10) else if P.portB (P.port (s.data.toList.drop (k0 + 1))) then (⟨(P.foldB (s.data.toList.take k0)).toArray⟩, ((P.port (s.data.toList.drop (k0 + 1)) : Nat) : Int), 0) else (ByteArray.empty, 0, 11) := by
      rw [P.split, if_neg h0, hke, Int.toNat_natCast]
    have HK := Lib.hid hke
    have HE := Lib.hid (And.intro e1 (And.intro e2 (And.intro e3 e4)))
    have HS := Lib.hid hS
    clear hsp h0 hke e1 e2 e3 e4 hb0 hstep hrange hS
    go_enter Tryd.func8, Tryd.ntmps8
    go_wp2_with fail
    go_loop [5, 6] (fun x i => ∃ k : Nat, ∃ q : Int, k ≤ s.size ∧ i = .int .i64 k ∧ x = .int .i64 q ∧ Hid (q = Lib.lastIdx s 58 k)) (fun _ i => s.size - (intOf i).toNat)
    case atStart => exact ⟨0, -1, by omega, rfl, rfl, Lib.hid rfl⟩
    case round =>
      obtain ⟨k, q, hk, rfl, rfl, hq⟩ := hrel
      by_cases hlt : k < s.size
      · have HS2 := Lib.hid (HST.out k hlt)
        go_wp2_with fail
        all_goals go_round
        all_goals first
          | (case rel => exact ⟨k + 1, k, by omega, by go_num, rfl, Lib.hid (by rw [HS2.out, if_pos (by simp_all)])⟩)
          | (case rel => exact ⟨k + 1, q, by omega, by go_num, rfl, Lib.hid (by rw [HS2.out, if_neg (by simp_all)]; exact hq.out)⟩)
          | (case measure => simp [intOf]; omega)
      · obtain rfl : k = s.size := by omega
        obtain rfl : q = (k0 : Int) := by rw [hq.out, HAT.out, HK.out]
        clear hq
        cases hn : P.name (s.data.toList.take k0)
        · have HN := Lib.hid hn
          clear hn
          go_wp2_with fail
          have HC := rfold_no (s.extract 0 k0) w (by rw [HE.out.2.1]; omega) (by rw [HE.out.1]; exact HN.out)
          with_reducible refine HC.mono ?_
          clear HC
          rintro e w1 ⟨rfl, hb1⟩
          go_wp2_with fail
          go_ret3
          exact ⟨by rw [HS.out, HN.out]; rfl, hb1⟩
        · have HN := Lib.hid hn
          have hpl := P.portF_le (s.data.toList.drop (k0 + 1)) 0 (by omega)
          obtain ⟨pt, hpt⟩ : ∃ pt, P.port (s.data.toList.drop (k0 + 1)) = pt := ⟨_, rfl⟩
          have hpl2 : pt ≤ 65535 := by rw [← hpt]; exact hpl
          have HPT := Lib.hid hpt
          clear hn hpl hpt
          by_cases hp0 : pt = 0
          · subst hp0
            go_wp2_with fail
            have HC := rfold_yes (s.extract 0 k0) w (by rw [HE.out.2.1]; omega) (by rw [HE.out.1]; exact HN.out)
            rw [HE.out.1] at HC
            with_reducible refine HC.mono ?_
            clear HC
            rintro e w1 ⟨rfl, hb1⟩
            go_wp2_with fail
            have HC := rport_any (s.extract (k0 + 1) s.size) w1 (by have := HE.out.2.2.2; omega)
            rw [HE.out.2.2.1, HPT.out] at HC
            with_reducible refine HC.mono ?_
            clear HC
            rintro e w2 ⟨rfl, rfl⟩
            go_wp2_with fail
            go_ret3
            exact ⟨by rw [HS.out, HN.out, HPT.out]; rfl, hb1⟩
          · have hpb : ((pt : Int) == 0) = false := by rw [beq_eq_false_iff_ne]; omega
            have HPB := Lib.hid (show P.portB pt = true by simp [P.portB]; omega)
            clear hp0
            go_wp2_with fail
            have HC := rfold_yes (s.extract 0 k0) w (by rw [HE.out.2.1]; omega) (by rw [HE.out.1]; exact HN.out)
            rw [HE.out.1] at HC
            with_reducible refine HC.mono ?_
            clear HC
            rintro e w1 ⟨rfl, hb1⟩
            go_wp2_with fail
            have HC := rport_any (s.extract (k0 + 1) s.size) w1 (by have := HE.out.2.2.2; omega)
            rw [HE.out.2.2.1, HPT.out] at HC
            with_reducible refine HC.mono ?_
            clear HC
            rintro e w2 ⟨rfl, rfl⟩
            go_wp2_with fail
            go_ret3
            exact ⟨by rw [HS.out, HN.out, HPT.out, HPB.out]; rfl, hb1⟩
end Go.Proofs.YtpeohgmceadmeaaDoor
