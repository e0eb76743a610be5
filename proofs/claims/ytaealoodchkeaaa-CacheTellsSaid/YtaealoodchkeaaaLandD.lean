/- The landed package cache: May. -/
import Derived.Test.YtaealoodchkeaaaLandC
set_option linter.unusedSimpArgs false
set_option linter.unusedVariables false
namespace Go.Proofs.Ytaealoodchkeaaa
open R3 Go.RowKit Go.Proofs.Ytaealoodchkeaaa.Kind

theorem geq_text (a b : ByteArray) : (!Op.bytesLess a.toList b.toList) = !ltS a b := rfl
set_option maxHeartbeats 8000000 in
set_option maxRecDepth 1000000 in
theorem may_spec : MaySpec := by
  intro l a c r w hl hr hR
  have hmx : (l.length : Int) ≤ 1000 := by omega
  have HR := Lib.hid hR
  have HRR := Lib.hid hr
  clear hR hr
  go_enter Try.func21, Try.ntmps21
  go_wp2_with fail
  go_loopw [2, 7] (fun u i wr => ∃ k : Nat, u = .bool false ∧ i = .int .i64 k ∧ k ≤ l.length ∧ Hid (mayK (l.take k) = true) ∧ Hid (Below w.heap.size w wr)) (fun _ i _ => l.length - (intOf i).toNat)
  case atStart => exact ⟨0, rfl, rfl, by omega, Lib.hid (up_nil_take l), Lib.hid (Below.refl _ _)⟩
  case round =>
    obtain ⟨k, rfl, rfl, hk, hn, hB⟩ := hrel
    have HN := Lib.hid hn.out
    have HB := Lib.hid hB.out
    have hgb := HB.out.size
    clear hn hB
    by_cases hlt : k < l.length
    · obtain ⟨b, o, rfl, hb, hat⟩ := HR.out.2.2.2 (by omega)
      obtain ⟨x, hx⟩ : ∃ x, l[k]? = some x := ⟨_, List.getElem?_eq_getElem hlt⟩
      obtain ⟨c0, c1, c2, c3⟩ := KK.cells (hat.below HB.out hb) hx
      have hb1 := below1 wr (.cells #[.string x.name, .string x.row, .int .i64 x.e, .int .i64 x.until_] 29)
      have HB1 := Lib.hid (HB.out.trans (hb1.mono hgb))
      have hbw : b < wr.heap.size := by omega
      have hst := may_step hx
      rw [HN.out, Bool.true_and] at hst
      have hT := text_is x.name
      have hT' := text_is' x.name
      have hR1 := text_is x.row
      have hR2 := text_is' x.row
      by_cases hno : x.name = .empty
      · rw [decide_eq_true hno] at hT hT'
        have HS := Lib.hid (show mayK l = false from may_take (k := k + 1) (by rw [hst]; rw [no_name x hno]; rfl))
        clear hst hat hx hno hb1
        go_wp2_with fail
        go_ret
        exact ⟨by rw [HRR.out, HS.out]; rfl, HB1.out⟩
      · rw [decide_eq_false hno] at hT hT'
        have hok := ok_cases x hno
        clear hno
        by_cases hE : x.e = 0
        · have hok1 : okK x = true := by rw [hok, decide_eq_true hE]; rfl
          have hE1 : (x.e != 0) = false := by simp [hE]
          clear hok hE
          rcases Nat.eq_zero_or_pos k with hk0 | hkp
          · have hz : (l.take k).getLast? = none := by rw [hk0]; rfl
            rw [hz] at hst
            have hk1 : ¬ (0 : Int) < (k : Int) := by omega
            have hk2 : ¬ 0 < k := by omega
            have hk3 : (k : Int) ≤ 0 := by omega
            have hk4 : decide (0 < k) = false := by simp; omega
            have hk5 : decide ((0 : Int) < (k : Int)) = false := by simp; omega
            clear hk0 hz
            have HS := Lib.hid (show mayK (l.take (k + 1)) = true by rw [hst]; rw [hok1]; rfl)
            clear hst hat hx hb1
            go_wp2_with fail
            go_quiet (fail)
            go_wp2_with fail
            go_roundw
            case rel => exact ⟨k + 1, rfl, by go_num, by omega, Lib.hid HS.out, Lib.hid (below_drewN HB1.out _)⟩
            case measure => simp [intOf]; omega
          · obtain ⟨j, rfl⟩ : ∃ j, k = j + 1 := ⟨k - 1, by omega⟩
            obtain ⟨y, hy⟩ : ∃ y, l[j]? = some y := ⟨_, List.getElem?_eq_getElem (by omega)⟩
            obtain ⟨d0, d1, d2, d3⟩ := KK.cells (hat.below HB1.out hb) hy
            rw [last_take hy] at hst
            clear hy
            cases hq : ltS y.name x.name with
            | false =>
              have he : Op.bytesLess y.name.toList x.name.toList = false := hq
              have HS := Lib.hid (show mayK l = false from may_take (k := j + 1 + 1) (by rw [hst]; simp [hq]))
              clear hst hat hx hb1 hq
              go_wp2_with fail
              go_quiet (fail)
              go_wp2_with fail
              go_ret
              exact ⟨by rw [HRR.out, HS.out]; rfl, below_drewN HB1.out _⟩
            | true =>
              have he : Op.bytesLess y.name.toList x.name.toList = true := hq
              have HS := Lib.hid (show mayK (l.take (j + 1 + 1)) = true by rw [hst]; rw [hok1]; simp [hq])
              clear hst hat hx hb1 hq
              go_wp2_with fail
              go_quiet (fail)
              go_wp2_with fail
              go_roundw
              case rel => exact ⟨j + 1 + 1, rfl, by go_num, by omega, Lib.hid HS.out, Lib.hid (below_drewN HB1.out _)⟩
              case measure => simp [intOf]; omega
        · have hE1 : (x.e != 0) = true := by simp [hE]
          by_cases hW : x.row = .empty
          · rw [decide_eq_true hW] at hR1 hR2
            have hok1 : okK x = true := by rw [hok, decide_eq_true hW]; simp
            clear hok hE hW
            rcases Nat.eq_zero_or_pos k with hk0 | hkp
            · have hz : (l.take k).getLast? = none := by rw [hk0]; rfl
              rw [hz] at hst
              have hk1 : ¬ (0 : Int) < (k : Int) := by omega
              have hk2 : ¬ 0 < k := by omega
              have hk3 : (k : Int) ≤ 0 := by omega
              have hk4 : decide (0 < k) = false := by simp; omega
              have hk5 : decide ((0 : Int) < (k : Int)) = false := by simp; omega
              clear hk0 hz
              have HS := Lib.hid (show mayK (l.take (k + 1)) = true by rw [hst]; rw [hok1]; rfl)
              clear hst hat hx hb1
              go_wp2_with fail
              go_quiet (fail)
              go_wp2_with fail
              go_roundw
              case rel => exact ⟨k + 1, rfl, by go_num, by omega, Lib.hid HS.out, Lib.hid (below_drewN HB1.out _)⟩
              case measure => simp [intOf]; omega
            · obtain ⟨j, rfl⟩ : ∃ j, k = j + 1 := ⟨k - 1, by omega⟩
              obtain ⟨y, hy⟩ : ∃ y, l[j]? = some y := ⟨_, List.getElem?_eq_getElem (by omega)⟩
              obtain ⟨d0, d1, d2, d3⟩ := KK.cells (hat.below HB1.out hb) hy
              rw [last_take hy] at hst
              clear hy
              cases hq : ltS y.name x.name with
              | false =>
                have he : Op.bytesLess y.name.toList x.name.toList = false := hq
                have HS := Lib.hid (show mayK l = false from may_take (k := j + 1 + 1) (by rw [hst]; simp [hq]))
                clear hst hat hx hb1 hq
                go_wp2_with fail
                go_quiet (fail)
                go_wp2_with fail
                go_ret
                exact ⟨by rw [HRR.out, HS.out]; rfl, below_drewN HB1.out _⟩
              | true =>
                have he : Op.bytesLess y.name.toList x.name.toList = true := hq
                have HS := Lib.hid (show mayK (l.take (j + 1 + 1)) = true by rw [hst]; rw [hok1]; simp [hq])
                clear hst hat hx hb1 hq
                go_wp2_with fail
                go_quiet (fail)
                go_wp2_with fail
                go_roundw
                case rel => exact ⟨j + 1 + 1, rfl, by go_num, by omega, Lib.hid HS.out, Lib.hid (below_drewN HB1.out _)⟩
                case measure => simp [intOf]; omega
          · rw [decide_eq_false hW] at hR1 hR2
            have hok1 : okK x = false := by rw [hok, decide_eq_false hW, decide_eq_false hE]; rfl
            have HS := Lib.hid (show mayK l = false from may_take (k := k + 1) (by rw [hst]; rw [hok1]; rfl))
            clear hst hat hx hb1 hok hE hW hok1
            go_wp2_with fail
            go_ret
            exact ⟨by rw [HRR.out, HS.out]; rfl, HB1.out⟩
    · obtain rfl : k = l.length := by omega
      have hN := HN.out
      rw [List.take_length] at hN
      go_wp2_with fail
      go_ret
      exact ⟨by rw [HRR.out, hN]; rfl, HB.out⟩
end Go.Proofs.Ytaealoodchkeaaa
