/- The two families' addresses, taken out of a row. -/
import Derived.Test.YtbejnnkdgcelmaaDoorIn
set_option linter.unusedSimpArgs false
set_option linter.unusedVariables false
namespace Go.Proofs.YtbejnnkdgcelmaaDoor
open Go.RowKit

theorem neq_same (x : Ad) (W : World) : (binOp .neq 36 (.agg #[.int .i8 x.f, .int .u16 x.g0, .int .u16 x.g1, .int .u16 x.g2, .int .u16 x.g3, .int .u16 x.g4, .int .u16 x.g5, .int .u16 x.g6, .int .u16 x.g7, .int .i64 x.p]) (.agg #[.int .i8 x.f, .int .u16 x.g0, .int .u16 x.g1, .int .u16 x.g2, .int .u16 x.g3, .int .u16 x.g4, .int .u16 x.g5, .int .u16 x.g6, .int .u16 x.g7, .int .i64 x.p])).run Tryd.prog W = .ok (.bool false) W := by
  rw [run_neq_struct]
  have h := equalIn_addr W x x
  simp only [Ad.v, Ad.enc] at h
  rw [h]
  simp
/-- Where the next one of a family stands in its row. -/
theorem filter_next (l : List Ad) (k : Nat) (x : Ad) (h : l[k]? = some x) (fam : Int) (hf : x.f = fam) : (l.filter (·.f == fam))[((l.take k).filter (·.f == fam)).length]? = some x := by
  have e : l = l.take (k + 1) ++ l.drop (k + 1) := (List.take_append_drop _ _).symm
  have e2 : l.filter (·.f == fam) = (l.take (k + 1)).filter (·.f == fam) ++ (l.drop (k + 1)).filter (·.f == fam) := by rw [← List.filter_append, ← e]
  rw [e2, take_filter l k x h fam, hf]
  simp
def oth (l : List Ad) : Nat := (l.filter fun x => !(x.f == 4) && !(x.f == 6)).length
theorem oth_take (l : List Ad) (k : Nat) (x : Ad) (h : l[k]? = some x) : oth (l.take (k + 1)) = oth (l.take k) + (if x.f ≠ 4 ∧ x.f ≠ 6 then 1 else 0) := by
  unfold oth
  rw [List.take_add_one, h, List.filter_append, List.length_append]
  congr 1
  by_cases h4 : x.f = 4 <;> by_cases h6 : x.f = 6 <;> simp [h4, h6]
theorem oth_may (l : List Ad) (h : 0 < oth l) : l.all mayP = false := by
  unfold oth at h
  obtain ⟨x, hx⟩ := List.exists_mem_of_length_pos h
  rw [List.mem_filter] at hx
  rw [List.all_eq_false]
  refine ⟨x, hx.1, ?_⟩
  intro hm
  have := (mayP_fam x hm).1
  simp at hx
  omega

set_option maxHeartbeats 16000000 in
set_option maxRecDepth 1000000 in
theorem families_walk (l : List Ad) (a : Option Addr) (c : Nat) (w : World) (hA : RowAt w a l) (hE : Env w) :
    Calls Tryd.prog 5 #[.slice a l.length c] w fun e w' => e = .returned (.bool true) ∧ Below w.heap.size w w' := by
  by_cases hg : 60 < l.length
  · have HG := Lib.hid (great_any l.length a c w)
    have HW := Lib.hid (wakes_any w hE)
    rw [decide_eq_true hg] at HG
    clear hg hA hE
    go_enter Tryd.func5, Tryd.ntmps5
    go_wp2_with fail
    with_reducible refine HG.out.mono ?_
    rintro e w1 ⟨rfl, rfl⟩
    go_wp2_with fail
    with_reducible refine HW.out.mono ?_
    rintro e w2 ⟨rfl, hb⟩
    go_wp2_with fail
    go_ret
    exact ⟨rfl, hb⟩
  · have HG := Lib.hid (great_any l.length a c w)
    rw [decide_eq_false hg] at HG
    have hl : l.length ≤ 60 := by omega
    have HA := Lib.hid hA
    have HE := Lib.hid hE
    clear hg hA hE
    go_enter Tryd.func5, Tryd.ntmps5
    go_wp2_with fail
    with_reducible refine HG.out.mono ?_
    rintro e w1 ⟨rfl, rfl⟩
    go_wp2_with fail
    have HC := of_in l a c 4 w1 (by omega) HA.out
    with_reducible refine HC.mono ?_
    clear HC
    rintro e w2 ⟨v4, rfl, hv4, hb2⟩
    have hA2 := HA.out.below hb2
    go_wp2_with fail
    have HC := of_in l a c 6 w2 (by omega) hA2
    with_reducible refine HC.mono ?_
    clear HC
    rintro e w3 ⟨v6, rfl, hv6, hb3⟩
    have hA3 := hA2.below hb3
    have hv43 := own_below' hv4 hb3
    have hbw := hb2.trans (hb3.mono hb2.size)
    obtain ⟨a4, c4, rfl, hr4, _⟩ := own_row hv43
    obtain ⟨a6, c6, rfl, hr6, _⟩ := own_row hv6
    have HR4 := Lib.hid hr4
    have HR6 := Lib.hid hr6
    have HA3 := Lib.hid hA3
    have HB := Lib.hid hbw
    clear hv4 hv6 hA2 hA3 hv43 hr4 hr6 hb2 hb3 hbw HA HG
    obtain ⟨f4, hf4⟩ : ∃ f, l.filter (·.f == 4) = f := ⟨_, rfl⟩
    obtain ⟨f6, hf6⟩ : ∃ f, l.filter (·.f == 6) = f := ⟨_, rfl⟩
    rw [hf4] at HR4 ⊢
    rw [hf6] at HR6 ⊢
    have HF4 := Lib.hid hf4
    have HF6 := Lib.hid hf6
    clear hf4 hf6
    go_wp2_with fail
    go_loopw [5, 6, 7, 8] (fun u5 u6 u7 u8 wr => ∃ k q : Nat, u8 = .int .i64 k ∧ k ≤ l.length ∧ u5 = .int .i64 (((l.take k).filter (·.f == 4)).length : Nat) ∧ u6 = .int .i64 (((l.take k).filter (·.f == 6)).length : Nat) ∧ u7 = .int .i64 (oth (l.take k) : Nat) ∧ wr = w3.drewN q) (fun _ _ _ u8 _ => l.length - (intOf u8).toNat)
    case atStart => exact ⟨0, 0, rfl, by omega, rfl, rfl, rfl, rfl⟩
    case round =>
      obtain ⟨k, q, rfl, hk, rfl, rfl, rfl, rfl⟩ := hrel
      by_cases hlt : k < l.length
      · obtain ⟨b, o, rfl, hb, hat⟩ := HA3.out (by omega)
        obtain ⟨x, hx⟩ : ∃ x, l[k]? = some x := ⟨_, List.getElem?_eq_getElem hlt⟩
        obtain ⟨d0, d1, d2, d3, d4, d5, d6, d7, d8, d9⟩ := hat.cells k x hx
        have T4 := Lib.hid (take_filter l k x hx 4)
        have T6 := Lib.hid (take_filter l k x hx 6)
        have TO := Lib.hid (oth_take l k x hx)
        have N4 := Lib.hid (filter_next l k x hx 4)
        have N6 := Lib.hid (filter_next l k x hx 6)
        rw [HF4.out] at N4
        rw [HF6.out] at N6
        have hnq := neq_same x
        have hgd := guard_addr
        obtain ⟨i4, hi4⟩ : ∃ i, ((l.take k).filter (·.f == 4)).length = i := ⟨_, rfl⟩
        obtain ⟨i6, hi6⟩ : ∃ i, ((l.take k).filter (·.f == 6)).length = i := ⟨_, rfl⟩
        have hb4 : i4 ≤ k := by rw [← hi4]; have h := List.length_filter_le (fun x : Ad => x.f == 4) (l.take k); rw [List.length_take] at h; omega
        have hb6 : i6 ≤ k := by rw [← hi6]; have h := List.length_filter_le (fun x : Ad => x.f == 6) (l.take k); rw [List.length_take] at h; omega
        have hbo : oth (l.take k) ≤ k := by unfold oth; have h := List.length_filter_le (fun x : Ad => !(x.f == 4) && !(x.f == 6)) (l.take k); rw [List.length_take] at h; omega
        rw [hi4] at N4 ⊢
        rw [hi6] at N6 ⊢
        have E4 := Lib.hid (show (l.take (k + 1)).filter (·.f == 4) = (l.take k).filter (·.f == 4) ++ (if x.f == 4 then [x] else []) from T4.out)
        have L4 := Lib.hid (show ((l.take (k + 1)).filter (·.f == 4)).length = i4 + (if x.f = 4 then 1 else 0) by rw [T4.out, List.length_append, hi4]; by_cases h : x.f = 4 <;> simp [h])
        have L6 := Lib.hid (show ((l.take (k + 1)).filter (·.f == 6)).length = i6 + (if x.f = 6 then 1 else 0) by rw [T6.out, List.length_append, hi6]; by_cases h : x.f = 6 <;> simp [h])
        clear hx hat hi4 hi6 T4 T6 E4
        by_cases h4 : x.f = 4
        · have hn := N4.out h4
          have hi : i4 < f4.length := (List.getElem?_eq_some_iff.1 hn).1
          obtain ⟨b4, o4, rfl, hbb4, hat4⟩ := HR4.out (by omega)
          obtain ⟨e0, e1, e2, e3, e4, e5, e6, e7, e8, e9⟩ := hat4.cells i4 x hn
          have hgb : decide (((f4.length : Nat) : Int) ≤ (i4 : Int)) = false := by simp; omega
          have h4b : (x.f == 4) = true := by rw [h4]; rfl
          clear hn hat4 N4 N6
          have R4 := Lib.hid (show ((l.take (k + 1)).filter (·.f == 4)).length = i4 + 1 ∧ ((l.take (k + 1)).filter (·.f == 6)).length = i6 ∧ oth (l.take (k + 1)) = oth (l.take k) by rw [L4.out, L6.out, TO.out, h4]; simp)
          clear h4 L4 L6 TO
          go_wp2_with fail
          go_quiet (fail)
          go_wp2_with fail
          go_roundw
          case rel => exact ⟨k + 1, _, by go_num, by omega, by rw [R4.out.1]; go_num, by rw [R4.out.2.1], by rw [R4.out.2.2], rfl⟩
          case measure => simp [intOf]; omega
        · have h4b : (x.f == 4) = false := by rw [beq_eq_false_iff_ne]; exact h4
          by_cases h6 : x.f = 6
          · have hn := N6.out h6
            have hi : i6 < f6.length := (List.getElem?_eq_some_iff.1 hn).1
            obtain ⟨b6, o6, rfl, hbb6, hat6⟩ := HR6.out (by omega)
            obtain ⟨e0, e1, e2, e3, e4, e5, e6, e7, e8, e9⟩ := hat6.cells i6 x hn
            have hgb : decide (((f6.length : Nat) : Int) ≤ (i6 : Int)) = false := by simp; omega
            have h6b : (x.f == 6) = true := by rw [h6]; rfl
            clear hn hat6 N4 N6
            have R4 := Lib.hid (show ((l.take (k + 1)).filter (·.f == 4)).length = i4 ∧ ((l.take (k + 1)).filter (·.f == 6)).length = i6 + 1 ∧ oth (l.take (k + 1)) = oth (l.take k) by rw [L4.out, L6.out, TO.out, h6]; simp)
            clear h4 h6 L4 L6 TO
            go_wp2_with fail
            go_quiet (fail)
            go_wp2_with fail
            go_roundw
            case rel => exact ⟨k + 1, _, by go_num, by omega, by rw [R4.out.1], by rw [R4.out.2.1]; go_num, by rw [R4.out.2.2], rfl⟩
            case measure => simp [intOf]; omega
          · have h6b : (x.f == 6) = false := by rw [beq_eq_false_iff_ne]; exact h6
            have R4 := Lib.hid (show ((l.take (k + 1)).filter (·.f == 4)).length = i4 ∧ ((l.take (k + 1)).filter (·.f == 6)).length = i6 ∧ oth (l.take (k + 1)) = oth (l.take k) + 1 by rw [L4.out, L6.out, TO.out]; simp [h4, h6])
            clear h4 h6 L4 L6 TO N4 N6
            go_wp2_with fail
            go_roundw
            case rel => exact ⟨k + 1, q, by go_num, by omega, by rw [R4.out.1], by rw [R4.out.2.1], by rw [R4.out.2.2]; go_num, rfl⟩
            case measure => simp [intOf]; omega
      · obtain rfl : k = l.length := by omega
        rw [List.take_length, HF4.out, HF6.out]
        have hb4 : (((f4.length : Nat) : Int) == ((f4.length : Nat) : Int)) = true := by simp
        have hbw := below_drewN HB.out q
        have hA4 : RowAt (w3.drewN q) a l := HA3.out.below (below_drewN (Below.refl _ _) q)
        have hz : w3.heap.size ≤ (w3.drewN q).heap.size := Nat.le_refl _
        clear hz
        generalize w3.drewN q = W4 at *
        by_cases ho : oth l = 0
        · rw [ho]
          have HW := Lib.hid (wakes_any W4 (HE.out.below hbw))
          clear ho
          go_wp2_with fail
          with_reducible refine HW.out.mono ?_
          rintro e w5 ⟨rfl, hb5⟩
          go_wp2_with fail
          go_ret
          exact ⟨rfl, hbw.trans (hb5.mono hbw.size)⟩
        · have HM := Lib.hid (may_in l a c W4 (by omega) hA4)
          rw [oth_may l (by omega)] at HM
          have hob : (((oth l : Nat) : Int) == 0) = false := by rw [beq_eq_false_iff_ne]; omega
          clear ho
          generalize oth l = ol at *
          go_wp2_with fail
          with_reducible refine HM.out.mono ?_
          rintro e w5 ⟨rfl, hb5⟩
          have hbw5 := hbw.trans (hb5.mono hbw.size)
          have HW := Lib.hid (wakes_any w5 (HE.out.below hbw5))
          go_wp2_with fail
          with_reducible refine HW.out.mono ?_
          rintro e w6 ⟨rfl, hb6⟩
          go_wp2_with fail
          go_ret
          exact ⟨rfl, hbw5.trans (hb6.mono hbw5.size)⟩
end Go.Proofs.YtbejnnkdgcelmaaDoor
