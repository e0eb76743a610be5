/- GateCounts walked. -/
import Derived.Test.YtfplkjnnnbknoaaTellsLaw
set_option linter.unusedSimpArgs false
set_option linter.unusedVariables false
namespace Go.Proofs.Ytfplkjnnnbknoaa
open Go.RowKit Go.Proofs.Ytfplkjnnnbknoaa.Kind

theorem roomB_sub {n : Int} {m : Nat} (h : (m : Int) ≤ n) : roomB n m false = n - m := by
  simp only [roomB, Bool.false_eq_true, false_or]
  split <;> omega

set_option maxHeartbeats 16000000 in
set_option maxRecDepth 1000000 in
theorem gatecounts_bad (n : Int) (a : Option Addr) (k c : Nat) (w : World) (hn : n < 1 ∨ 64 < n) :
    Calls Try.prog 4 #[.int .i64 n, .slice a k c] w fun e w' => e = .returned (.bool true) ∧ Below w.heap.size w w' := by
  have HWk := Lib.hid (fun w => wakes_any w)
  have HG := Lib.hid (gate_any n 2 0 (by rcases hn with h | h; exact .inl ⟨h, rfl, rfl⟩; exact .inr (.inl ⟨h, rfl, rfl⟩)) w)
  rcases (show n < 1 ∨ (¬ n < 1 ∧ 64 < n) by omega) with h1 | ⟨h1, h2⟩
  all_goals
    clear hn
    go_enter Try.func4, Try.ntmps4
    go_wp2_with fail
    with_reducible refine HG.out.mono ?_
    rintro e w1 ⟨a1, c1, rfl, hL, hB⟩
    have HB1 := Lib.hid (hB.alloc hB.size (.cells #[.int .i64 0, .slice a1 0 c1, .bool false] 24))
    clear hB hL
    go_wp2_with fail
    with_reducible refine (HWk.out _).mono ?_
    rintro e w2 ⟨rfl, hB⟩
    have HB2 := Lib.hid (HB1.out.trans (hB.mono HB1.out.size))
    clear hB
    go_wp2_with fail
    go_ret
    exact ⟨rfl, HB2.out⟩

set_option maxHeartbeats 16000000 in
set_option maxRecDepth 1000000 in
theorem gatecounts_great (n : Int) (a : Option Addr) (k c : Nat) (w : World) (hn : 1 ≤ n ∧ n ≤ 64) (hk : (200 : Int) < k) :
    Calls Try.prog 4 #[.int .i64 n, .slice a k c] w fun e w' => e = .returned (.bool true) ∧ Below w.heap.size w w' := by
  have HWk := Lib.hid (fun w => wakes_any w)
  have HG := Lib.hid (gate_any n 0 n (.inr (.inr ⟨hn.1, hn.2, rfl, rfl⟩)) w)
  clear hn
  go_enter Try.func4, Try.ntmps4
  go_wp2_with fail
  with_reducible refine HG.out.mono ?_
  rintro e w1 ⟨a1, c1, rfl, hL, hB⟩
  have HB1 := Lib.hid (hB.alloc hB.size (.cells #[.int .i64 n, .slice a1 0 c1, .bool false] 24))
  clear hB hL
  go_wp2_with fail
  with_reducible refine (HWk.out _).mono ?_
  rintro e w2 ⟨rfl, hB⟩
  have HB2 := Lib.hid (HB1.out.trans (hB.mono HB1.out.size))
  clear hB
  go_wp2_with fail
  go_ret
  exact ⟨rfl, HB2.out⟩

set_option maxHeartbeats 16000000 in
set_option maxRecDepth 1000000 in
theorem gatecounts_walk (n : Int) (l : List Bool) (a : Option Addr) (c : Nat) (w : World) (hn : 1 ≤ n ∧ n ≤ 64) (hl : ¬ (200 : Int) < l.length) (hA : BK.RowC w a c l) :
    Calls Try.prog 4 #[.int .i64 n, .slice a l.length c] w fun e w' => e = .returned (.bool true) ∧ Below w.heap.size w w' := by
  have HWk := Lib.hid (fun w => wakes_any w)
  have HA := Lib.hid hA
  have HG := Lib.hid (gate_any n 0 n (.inr (.inr ⟨hn.1, hn.2, rfl, rfl⟩)) w)
  obtain ⟨hn1, hn2⟩ := hn
  have HN := Lib.hid (And.intro hn1 hn2)
  clear hA hn1 hn2
  go_enter Try.func4, Try.ntmps4
  go_wp2_with fail
  with_reducible refine HG.out.mono ?_
  rintro e w1 ⟨a1, c1, rfl, hL, hB⟩
  have HB1 := Lib.hid (hB.alloc hB.size (.cells #[.int .i64 n, .slice a1 0 c1, .bool false] 24))
  have HX1 := Lib.hid (laid1 w1 (.cells #[.int .i64 n, .slice a1 0 c1, .bool false] 24))
  have HR1 := Lib.hid (hL.below (below1 w1 (.cells #[.int .i64 n, .slice a1 0 c1, .bool false] 24))).row
  have hAw : w.heap.size ≤ w1.heap.size := hB.size
  clear hB hL HG
  go_wp2_with fail
  generalize w1.alloc (.cells #[.int .i64 n, .slice a1 0 c1, .bool false] 24) = W1 at *
  generalize w1.heap.size = A at *
  go_loopw [4, 7, 8] (fun u4 u7 u8 wr => ∃ (k m : Nat) (J : List Lt) (a5 : Option Addr) (c5 : Nat), u8 = .int .i64 k ∧ u4 = .bool false ∧ u7 = .int .i64 m ∧ k ≤ l.length ∧ Hid ((m : Int) ≤ n ∧ J.length = m) ∧ Hid (wr.heap[A]? = some (.cells #[.int .i64 n, .slice a5 m c5, .bool false] 24 (0, 0))) ∧ Hid (LK.RowC wr a5 c5 J) ∧ Hid (Below w.heap.size w wr)) (fun _ _ u _ => l.length - (intOf u).toNat)
  case atStart => exact ⟨0, 0, [], a1, c1, rfl, rfl, rfl, by omega, Lib.hid ⟨by have := HN.out; omega, rfl⟩, HX1, HR1, HB1⟩
  case round =>
    obtain ⟨k, m, J, a5, c5, rfl, rfl, rfl, hk, hmJ, hX, hR, hb⟩ := hrel
    have HX := Lib.hid hX.out
    have HR := Lib.hid hR.out
    have HB := Lib.hid hb.out
    have hbs := hb.out.size
    obtain ⟨hmn, hJm⟩ := hmJ.out
    clear hX hR hb hmJ HX1 HR1 HB1
    have hm64 : m ≤ 64 := by have := HN.out; omega
    have HMN := Lib.hid hmn
    clear hmn
    by_cases hlt : k < l.length
    case neg =>
      obtain rfl : k = l.length := by omega
      go_wp2_with fail
      with_reducible refine (HWk.out _).mono ?_
      rintro e w2 ⟨rfl, hB⟩
      have HB2 := Lib.hid (HB.out.trans (hB.mono HB.out.size))
      clear hB
      go_wp2_with fail
      go_ret
      exact ⟨rfl, HB2.out⟩
    obtain ⟨b, o, rfl, hbw, hat⟩ := (HA.out.below HB.out).2.2.2 (by omega)
    obtain ⟨x, hx⟩ : ∃ x, l[k]? = some x := ⟨_, List.getElem?_eq_getElem hlt⟩
    have hz := BK.one hat hx
    have hlb : (k : Int) < (l.length : Int) := by omega
    have hk0 : (0 : Int) ≤ (k : Int) := by omega
    have hbw2 : b < wr.heap.size := hbw
    have hAlt := lt_of_block HX.out
    have hbZ := below1 wr (.cells #[.int .i64 0, .slice none 0 0, .bool false] 24)
    have HX1 := Lib.hid ((hbZ.block _ hAlt).trans HX.out)
    have HO1 := Lib.hid (laid1 wr (.cells #[.int .i64 0, .slice none 0 0, .bool false] 24))
    have HB1 := Lib.hid (HB.out.trans (hbZ.mono hbs))
    have HR1 := Lib.hid (HR.out.below hbZ)
    have hz1 := (hbZ.cell (p := ⟨b, o + k, none⟩) hbw2).trans hz
    obtain ⟨⟨x0, x1, x2⟩, _⟩ := box3 HX1.out
    have HbZ := Lib.hid hbZ
    clear hat hx hz hbZ hbw
    cases x
    · cases J with
      | nil =>
        obtain rfl : m = 0 := by simpa using hJm.symm
        have HC := Lib.hid (leave_any n false [] 51 0 [] false (.inl ⟨rfl, rfl, rfl, rfl, rfl⟩) (by simp) (by have := HN.out; omega) a5 c5 _ HR1.out)
        rw [List.length_nil] at HC
        go_wp2_with fail
        with_reducible refine HC.out.mono ?_
        rintro e w2 ⟨a2, c2, rfl, hL, hB⟩
        have hX2 := (hB.block _ (lt_of_block HX1.out)).trans HX1.out
        have hO2 := (hB.block _ (lt_of_block HO1.out)).trans HO1.out
        obtain ⟨⟨y0, y1, y2⟩, y3, y4, y5⟩ := box3 hO2
        have hOlt : A < wr.heap.size := hAlt
        have HO2 := Lib.hid (set3_at hO2 (.int .i64 0) (.slice a2 (0) c2) (.bool false))
        have HX2 := Lib.hid ((set3_other w2 wr.heap.size A (.int .i64 0) (.slice a2 (0) c2) (.bool false) (by omega)).trans hX2)
        have HB2 := Lib.hid (set3_below (b := wr.heap.size) (HB1.out.trans (hB.mono HB1.out.size)) hbs (.int .i64 0) (.slice a2 (0) c2) (.bool false))
        have HR2 := Lib.hid (HR.out.below (set3_below (b := wr.heap.size) (HbZ.out.trans (hB.mono HbZ.out.size)) (Nat.le_refl _) (.int .i64 0) (.slice a2 0 c2) (.bool false)))
        clear hX2 hO2 hL hB HC x0 x1 x2
        generalize hW2 : set3 w2 wr.heap.size (.int .i64 0) (.slice a2 (0) c2) (.bool false) = W2 at *
        unfold set3 at hW2
        obtain ⟨⟨x0, x1, x2⟩, x3, x4, x5⟩ := box3 HX2.out
        obtain ⟨⟨o0, o1, o2⟩, _⟩ := box3 HO2.out
        have hw2 : IntKind.i64.wrap n = n := by have := HN.out; rw [IntKind.wrap_i64]; omega
        have hw3 : IntKind.i64.wrap (n - ((0 : Nat) : Int)) = n := by have := HN.out; rw [IntKind.wrap_i64]; omega
        have HX3 := Lib.hid HX2.out
        have HB3 := Lib.hid HB2.out
        have HR3 := Lib.hid HR2.out
        have HI := Lib.hid (inside1 n a5 (0) c5 false 24 (by omega) W2.heap.size _ (laid1 W2 (.cells #[.int .i64 n, .slice a5 (0) c5, .bool false] 24)))
        have hbR := below1 W2 (.cells #[.int .i64 n, .slice a5 (0) c5, .bool false] 24)
        have HBr := Lib.hid hbR
        clear hbR
        go_wp2_with fail
        with_reducible refine HI.out.mono ?_
        rintro e w4 ⟨rfl, hB⟩
        have hB4 := HBr.out.trans (hB.mono HBr.out.size)
        have HX4 := Lib.hid ((hB4.block _ (lt_of_block HX3.out)).trans HX3.out)
        have HB4 := Lib.hid (HB3.out.trans (hB4.mono HB3.out.size))
        have HR4 := Lib.hid (HR3.out.below hB4)
        obtain ⟨⟨r0, r1, r2⟩, _⟩ := box3 HX4.out
        have HF := Lib.hid (free_any n a5 (0) c5 false w4 (by have := HN.out; omega))
        rw [roomB_sub (by have := HN.out; have := HMN.out; omega)] at HF
        clear hB hB4 HI HBr
        go_wp2_with fail
        with_reducible refine HF.out.mono ?_
        rintro e w5 ⟨rfl, hB⟩
        have HX5 := Lib.hid ((hB.block _ (lt_of_block HX4.out)).trans HX4.out)
        have HB5 := Lib.hid (HB4.out.trans (hB.mono HB4.out.size))
        have HR5 := Lib.hid (HR4.out.below hB)
        clear hB HF
        go_wp2_with fail
        go_roundw
        case rel => exact ⟨k + 1, 0, _, a5, c5, by go_num, by trivial, by go_num, by omega, Lib.hid ⟨by have := HN.out; have := HMN.out; omega, rfl⟩, HX5, HR5, HB5⟩
        case measure => simp [intOf]; omega
      | cons y L =>
        obtain ⟨p, hp⟩ : ∃ p, L.length = p := ⟨_, rfl⟩
        obtain rfl : m = p + 1 := by simp at hJm; omega
        have HC := Lib.hid (leave_any n false (y :: L) 0 n L false (.inr ⟨by simp, rfl, rfl, rfl, rfl⟩) (by simp; omega) (by have := HN.out; omega) a5 c5 _ HR1.out)
        rw [List.length_cons, hp] at HC
        go_wp2_with fail
        with_reducible refine HC.out.mono ?_
        rintro e w2 ⟨a2, c2, rfl, hL, hB⟩
        have hX2 := (hB.block _ (lt_of_block HX1.out)).trans HX1.out
        have hO2 := (hB.block _ (lt_of_block HO1.out)).trans HO1.out
        obtain ⟨⟨y0, y1, y2⟩, y3, y4, y5⟩ := box3 hO2
        have hOlt : A < wr.heap.size := hAlt
        have HO2 := Lib.hid (set3_at hO2 (.int .i64 n) (.slice a2 (p) c2) (.bool false))
        have HX2 := Lib.hid ((set3_other w2 wr.heap.size A (.int .i64 n) (.slice a2 (p) c2) (.bool false) (by omega)).trans hX2)
        have HB2 := Lib.hid (set3_below (b := wr.heap.size) (HB1.out.trans (hB.mono HB1.out.size)) hbs (.int .i64 n) (.slice a2 (p) c2) (.bool false))
        have HL2 := Lib.hid (set3_loose (b := wr.heap.size) hL (by simp) (.int .i64 n) (.slice a2 (p) c2) (.bool false))
        clear hX2 hO2 hL hB HC x0 x1 x2
        generalize hW2 : set3 w2 wr.heap.size (.int .i64 n) (.slice a2 (p) c2) (.bool false) = W2 at *
        unfold set3 at hW2
        obtain ⟨⟨x0, x1, x2⟩, x3, x4, x5⟩ := box3 HX2.out
        obtain ⟨⟨o0, o1, o2⟩, _⟩ := box3 HO2.out
        have hw1 : IntKind.i64.wrap ((p : Int) + 1 - 1) = (p : Int) := by rw [IntKind.wrap_i64]; omega
        have hw3 : IntKind.i64.wrap (p : Int) = (p : Int) := by rw [IntKind.wrap_i64]; omega
        have hw2 : IntKind.i64.wrap (n - (p : Int)) = n - (p : Int) := by have := HN.out; have := HMN.out; rw [IntKind.wrap_i64]; omega
        have hpos : (0 : Int) < (p : Int) + 1 := by omega
        have HX3 := Lib.hid (set3_at HX2.out (.int .i64 n) (.slice a2 (p) c2) (.bool false))
        have HB3 := Lib.hid (set3_below (b := A) HB2.out hAw (.int .i64 n) (.slice a2 (p) c2) (.bool false))
        have HR3 := Lib.hid (set3_loose HL2.out (b := A) (by simp; omega) (.int .i64 n) (.slice a2 (p) c2) (.bool false)).row
        generalize hW3 : set3 W2 A (.int .i64 n) (.slice a2 (p) c2) (.bool false) = W3 at *
        unfold set3 at hW3
        obtain ⟨⟨v0, v1, v2⟩, _⟩ := box3 HX3.out
        have HI := Lib.hid (inside1 n a2 (p) c2 false 24 (by omega) W3.heap.size _ (laid1 W3 (.cells #[.int .i64 n, .slice a2 (p) c2, .bool false] 24)))
        have hbR := below1 W3 (.cells #[.int .i64 n, .slice a2 (p) c2, .bool false] 24)
        have HBr := Lib.hid hbR
        clear hbR
        go_wp2_with fail
        with_reducible refine HI.out.mono ?_
        rintro e w4 ⟨rfl, hB⟩
        have hB4 := HBr.out.trans (hB.mono HBr.out.size)
        have HX4 := Lib.hid ((hB4.block _ (lt_of_block HX3.out)).trans HX3.out)
        have HB4 := Lib.hid (HB3.out.trans (hB4.mono HB3.out.size))
        have HR4 := Lib.hid (HR3.out.below hB4)
        obtain ⟨⟨r0, r1, r2⟩, _⟩ := box3 HX4.out
        have HF := Lib.hid (free_any n a2 (p) c2 false w4 (by have := HN.out; omega))
        rw [roomB_sub (by have := HN.out; have := HMN.out; omega)] at HF
        clear hB hB4 HI HBr
        go_wp2_with fail
        with_reducible refine HF.out.mono ?_
        rintro e w5 ⟨rfl, hB⟩
        have HX5 := Lib.hid ((hB.block _ (lt_of_block HX4.out)).trans HX4.out)
        have HB5 := Lib.hid (HB4.out.trans (hB.mono HB4.out.size))
        have HR5 := Lib.hid (HR4.out.below hB)
        clear hB HF
        go_wp2_with fail
        go_roundw
        case rel => exact ⟨k + 1, p, _, a2, c2, by go_num, by trivial, by go_num, by omega, Lib.hid ⟨by have := HN.out; have := HMN.out; omega, hp⟩, HX5, HR5, HB5⟩
        case measure => simp [intOf]; omega
    · by_cases hroom : (m : Int) < n
      · have hLl : (J ++ [Lt.zero]).length = m + 1 := by simp [hJm]
        have HC := Lib.hid (enter_any n false J 0 n (J ++ [Lt.zero]) false (.inr (.inr ⟨rfl, by omega, rfl, rfl, rfl, rfl⟩)) (by omega) (by have := HN.out; omega) a5 c5 _ HR1.out)
        rw [hLl, hJm] at HC
        go_wp2_with fail
        with_reducible refine HC.out.mono ?_
        rintro e w2 ⟨a2, c2, rfl, hL, hB⟩
        have hX2 := (hB.block _ (lt_of_block HX1.out)).trans HX1.out
        have hO2 := (hB.block _ (lt_of_block HO1.out)).trans HO1.out
        obtain ⟨⟨y0, y1, y2⟩, y3, y4, y5⟩ := box3 hO2
        have hOlt : A < wr.heap.size := hAlt
        have HO2 := Lib.hid (set3_at hO2 (.int .i64 n) (.slice a2 (m + 1) c2) (.bool false))
        have HX2 := Lib.hid ((set3_other w2 wr.heap.size A (.int .i64 n) (.slice a2 (m + 1) c2) (.bool false) (by omega)).trans hX2)
        have HB2 := Lib.hid (set3_below (b := wr.heap.size) (HB1.out.trans (hB.mono HB1.out.size)) hbs (.int .i64 n) (.slice a2 (m + 1) c2) (.bool false))
        have HL2 := Lib.hid (set3_loose (b := wr.heap.size) hL (by simp) (.int .i64 n) (.slice a2 (m + 1) c2) (.bool false))
        clear hX2 hO2 hL hB HC x0 x1 x2
        generalize hW2 : set3 w2 wr.heap.size (.int .i64 n) (.slice a2 (m + 1) c2) (.bool false) = W2 at *
        unfold set3 at hW2
        obtain ⟨⟨x0, x1, x2⟩, x3, x4, x5⟩ := box3 HX2.out
        obtain ⟨⟨o0, o1, o2⟩, _⟩ := box3 HO2.out
        have hw1 : IntKind.i64.wrap ((m : Int) + 1) = (m : Int) + 1 := by have := HN.out; have := HMN.out; rw [IntKind.wrap_i64]; omega
        have hw2 : IntKind.i64.wrap (n - ((m : Int) + 1)) = n - ((m : Int) + 1) := by have := HN.out; have := HMN.out; rw [IntKind.wrap_i64]; omega
        have HX3 := Lib.hid (set3_at HX2.out (.int .i64 n) (.slice a2 (m + 1) c2) (.bool false))
        have HB3 := Lib.hid (set3_below (b := A) HB2.out hAw (.int .i64 n) (.slice a2 (m + 1) c2) (.bool false))
        have HR3 := Lib.hid (set3_loose HL2.out (b := A) (by simp; omega) (.int .i64 n) (.slice a2 (m + 1) c2) (.bool false)).row
        generalize hW3 : set3 W2 A (.int .i64 n) (.slice a2 (m + 1) c2) (.bool false) = W3 at *
        unfold set3 at hW3
        obtain ⟨⟨v0, v1, v2⟩, _⟩ := box3 HX3.out
        have HI := Lib.hid (inside1 n a2 (m + 1) c2 false 24 (by omega) W3.heap.size _ (laid1 W3 (.cells #[.int .i64 n, .slice a2 (m + 1) c2, .bool false] 24)))
        have hbR := below1 W3 (.cells #[.int .i64 n, .slice a2 (m + 1) c2, .bool false] 24)
        have HBr := Lib.hid hbR
        clear hbR
        go_wp2_with fail
        with_reducible refine HI.out.mono ?_
        rintro e w4 ⟨rfl, hB⟩
        have hB4 := HBr.out.trans (hB.mono HBr.out.size)
        have HX4 := Lib.hid ((hB4.block _ (lt_of_block HX3.out)).trans HX3.out)
        have HB4 := Lib.hid (HB3.out.trans (hB4.mono HB3.out.size))
        have HR4 := Lib.hid (HR3.out.below hB4)
        obtain ⟨⟨r0, r1, r2⟩, _⟩ := box3 HX4.out
        have HF := Lib.hid (free_any n a2 (m + 1) c2 false w4 (by have := HN.out; omega))
        rw [roomB_sub (by have := HN.out; have := HMN.out; omega)] at HF
        clear hB hB4 HI HBr
        go_wp2_with fail
        with_reducible refine HF.out.mono ?_
        rintro e w5 ⟨rfl, hB⟩
        have HX5 := Lib.hid ((hB.block _ (lt_of_block HX4.out)).trans HX4.out)
        have HB5 := Lib.hid (HB4.out.trans (hB.mono HB4.out.size))
        have HR5 := Lib.hid (HR4.out.below hB)
        clear hB HF
        go_wp2_with fail
        go_roundw
        case rel => exact ⟨k + 1, m + 1, _, a2, c2, by go_num, by trivial, by go_num, by omega, Lib.hid ⟨by have := HN.out; have := HMN.out; omega, hLl⟩, HX5, HR5, HB5⟩
        case measure => simp [intOf]; omega
      · have hroom2 : n ≤ (m : Int) := by omega
        have HC := Lib.hid (enter_any n false J 50 0 [] false (.inr (.inl ⟨rfl, by omega, rfl, rfl, rfl, rfl⟩)) (by omega) (by have := HN.out; omega) a5 c5 _ HR1.out)
        rw [List.length_nil, hJm] at HC
        go_wp2_with fail
        with_reducible refine HC.out.mono ?_
        rintro e w2 ⟨a2, c2, rfl, hL, hB⟩
        have hX2 := (hB.block _ (lt_of_block HX1.out)).trans HX1.out
        have hO2 := (hB.block _ (lt_of_block HO1.out)).trans HO1.out
        obtain ⟨⟨y0, y1, y2⟩, y3, y4, y5⟩ := box3 hO2
        have hOlt : A < wr.heap.size := hAlt
        have HO2 := Lib.hid (set3_at hO2 (.int .i64 0) (.slice a2 (0) c2) (.bool false))
        have HX2 := Lib.hid ((set3_other w2 wr.heap.size A (.int .i64 0) (.slice a2 (0) c2) (.bool false) (by omega)).trans hX2)
        have HB2 := Lib.hid (set3_below (b := wr.heap.size) (HB1.out.trans (hB.mono HB1.out.size)) hbs (.int .i64 0) (.slice a2 (0) c2) (.bool false))
        have HR2 := Lib.hid (HR.out.below (set3_below (b := wr.heap.size) (HbZ.out.trans (hB.mono HbZ.out.size)) (Nat.le_refl _) (.int .i64 0) (.slice a2 0 c2) (.bool false)))
        clear hX2 hO2 hL hB HC x0 x1 x2
        generalize hW2 : set3 w2 wr.heap.size (.int .i64 0) (.slice a2 (0) c2) (.bool false) = W2 at *
        unfold set3 at hW2
        obtain ⟨⟨x0, x1, x2⟩, x3, x4, x5⟩ := box3 HX2.out
        obtain ⟨⟨o0, o1, o2⟩, _⟩ := box3 HO2.out
        have hw2 : IntKind.i64.wrap (n - (m : Int)) = n - (m : Int) := by have := HN.out; have := HMN.out; rw [IntKind.wrap_i64]; omega
        have HX3 := Lib.hid HX2.out
        have HB3 := Lib.hid HB2.out
        have HR3 := Lib.hid HR2.out
        have HI := Lib.hid (inside1 n a5 (m) c5 false 24 (by omega) W2.heap.size _ (laid1 W2 (.cells #[.int .i64 n, .slice a5 (m) c5, .bool false] 24)))
        have hbR := below1 W2 (.cells #[.int .i64 n, .slice a5 (m) c5, .bool false] 24)
        have HBr := Lib.hid hbR
        clear hbR
        go_wp2_with fail
        with_reducible refine HI.out.mono ?_
        rintro e w4 ⟨rfl, hB⟩
        have hB4 := HBr.out.trans (hB.mono HBr.out.size)
        have HX4 := Lib.hid ((hB4.block _ (lt_of_block HX3.out)).trans HX3.out)
        have HB4 := Lib.hid (HB3.out.trans (hB4.mono HB3.out.size))
        have HR4 := Lib.hid (HR3.out.below hB4)
        obtain ⟨⟨r0, r1, r2⟩, _⟩ := box3 HX4.out
        have HF := Lib.hid (free_any n a5 (m) c5 false w4 (by have := HN.out; omega))
        rw [roomB_sub (by have := HN.out; have := HMN.out; omega)] at HF
        clear hB hB4 HI HBr
        go_wp2_with fail
        with_reducible refine HF.out.mono ?_
        rintro e w5 ⟨rfl, hB⟩
        have HX5 := Lib.hid ((hB.block _ (lt_of_block HX4.out)).trans HX4.out)
        have HB5 := Lib.hid (HB4.out.trans (hB.mono HB4.out.size))
        have HR5 := Lib.hid (HR4.out.below hB)
        clear hB HF
        go_wp2_with fail
        go_roundw
        case rel => exact ⟨k + 1, m, _, a5, c5, by go_num, by trivial, by go_num, by omega, Lib.hid ⟨by have := HN.out; have := HMN.out; omega, hJm⟩, HX5, HR5, HB5⟩
        case measure => simp [intOf]; omega

theorem gatecounts_all (n : Int) (l : List Bool) (a : Option Addr) (c : Nat) (w : World) (hA : BK.RowC w a c l) :
    Calls Try.prog 4 #[.int .i64 n, .slice a l.length c] w fun e w' => e = .returned (.bool true) ∧ Below w.heap.size w w' := by
  by_cases hn : n < 1 ∨ 64 < n
  · exact gatecounts_bad n a l.length c w hn
  · by_cases hl : (200 : Int) < l.length
    · exact gatecounts_great n a l.length c w ⟨by omega, by omega⟩ hl
    · exact gatecounts_walk n l a c w ⟨by omega, by omega⟩ hl hA
end Go.Proofs.Ytfplkjnnnbknoaa
