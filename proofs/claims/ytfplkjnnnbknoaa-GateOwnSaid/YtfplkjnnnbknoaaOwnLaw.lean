/- GateOwn walked. -/
import Derived.Test.YtfplkjnnnbknoaaTellsLaw
set_option linter.unusedSimpArgs false
set_option linter.unusedVariables false
namespace Go.Proofs.Ytfplkjnnnbknoaa
open Go.RowKit Go.Proofs.Ytfplkjnnnbknoaa.Kind

/-- Letters' numbers that may be written. -/
def Nums (w : World) (g o n : Nat) : Prop := ∀ i, i < n → (∃ v, w.cell? ⟨g, o + i * 6 + 2, none⟩ = some (.int .i64 v)) ∧ w.frozen? ⟨g, o + i * 6 + 2, none⟩ = false
theorem Nums.of {w : World} {base : Nat} {a : Option Addr} {c : Nat} {L : List Lt} (h : LK.Loose w base a c L) : ∃ g o, (0 < L.length → a = some ⟨g, o, none⟩ ∧ base ≤ g ∧ g < w.heap.size) ∧ Nums w g o L.length := by
  by_cases hl : 0 < L.length
  · have hlc := h.1
    obtain ⟨g, o, h1, h2, h3, h4, h5⟩ := h.2.2.2 (by omega)
    refine ⟨g, o, fun _ => ⟨h1, h2, h3⟩, fun i hi => ?_⟩
    obtain ⟨x, hx⟩ : ∃ x, L[i]? = some x := ⟨_, List.getElem?_eq_getElem hi⟩
    refine ⟨⟨x.num, h5 i x hx 2 _ rfl⟩, ?_⟩
    have := (h4 (i * 6 + 2) (by show i * 6 + 2 < c * 6; omega)).2
    rwa [← Nat.add_assoc] at this
  · exact ⟨0, 0, fun h => absurd h hl, fun i hi => by omega⟩
theorem Nums.other {w w' : World} {g o n : Nat} (h : Nums w g o n) (hb : w'.heap[g]? = w.heap[g]?) : Nums w' g o n := fun i hi => by
  rw [World.cell?_of_block (w := w) (w' := w') (a := ⟨g, o + i * 6 + 2, none⟩) hb, World.frozen?_of_block (w := w) (w' := w') (a := ⟨g, o + i * 6 + 2, none⟩) hb]
  exact h i hi
theorem Nums.below {w w' : World} {g o n : Nat} (h : Nums w g o n) (hg : 0 < n → g < w.heap.size) (hb : Below w.heap.size w w') : Nums w' g o n := fun i hi => h.other (hb.block g (hg (by omega))) i hi
theorem Nums.store {w : World} {g o n : Nat} (h : Nums w g o n) (p : Addr) (z : Int) : Nums (w.setCell p (.int .i64 z)) g o n := fun i hi => by
  obtain ⟨⟨x, hx⟩, hf⟩ := h i hi
  refine ⟨?_, by rw [World.frozen?_setCell]; exact hf⟩
  by_cases e : p = ⟨g, o + i * 6 + 2, none⟩
  · subst e
    exact ⟨z, World.cell?_setCell_same (w := w) (a := ⟨g, o + i * 6 + 2, none⟩) (v := .int .i64 z) hx⟩
  · exact ⟨x, (World.cell?_setCell_other (w := w) (a := p) (b := ⟨g, o + i * 6 + 2, none⟩) (v := .int .i64 z) e).trans hx⟩
theorem MineC.far {α : Type} {K : Kind Try.prog α} {w : World} {base : Nat} {a : Option Addr} {c : Nat} {l : List α} (h : K.MineC w base a c l) : K.FarC w base a c l :=
  ⟨h.row, fun hl ad e => by
    obtain ⟨g, cur, t, h1, h2, _⟩ := h.2.2.2 hl
    rw [h1] at e
    injection e with e
    subst e
    exact h2⟩
/-- One number has been written, in block g. -/
theorem own_step {W0 w : World} {n0 A B g o n g2 o2 n2 : Nat} {VA VB : Array Value} {p : Addr} (z : Int) (V : World) (hV : V = w.setCell p (.int .i64 z)) (hp : p.block = g)
    (hb : Below n0 W0 w) (h0 : n0 ≤ g) (hA : w.heap[A]? = some (.cells VA 24 (0, 0))) (hB : w.heap[B]? = some (.cells VB 24 (0, 0))) (hgA : g ≠ A) (hgB : g ≠ B) (h1 : Nums w g o n) (h2 : Nums w g2 o2 n2) :
    Below n0 W0 V.drew ∧ V.drew.heap[A]? = some (.cells VA 24 (0, 0)) ∧ V.drew.heap[B]? = some (.cells VB 24 (0, 0)) ∧ Nums V.drew g o n ∧ Nums V.drew g2 o2 n2 := by
  have e1 := hb.setCell (p := p) (by omega) (.int .i64 z)
  have e2 := (Below.heap_setCell w p (.int .i64 z) A (by omega)).trans hA
  have e3 := (Below.heap_setCell w p (.int .i64 z) B (by omega)).trans hB
  have e4 := h1.store p z
  have e5 := h2.store p z
  rw [← hV] at e1 e2 e3 e4 e5
  exact ⟨e1.drew, e2, e3, e4, e5⟩

set_option maxHeartbeats 16000000 in
set_option maxRecDepth 1000000 in
theorem gateown_walk (cap : Int) (cl : Bool) (l : List Lt) (a : Option Addr) (c : Nat) (w : World) (hcap : cap ≤ 9223372036854775807) (hA : LK.RowC w a c l) :
    Calls Try.prog 6 #[.agg #[.int .i64 cap, .slice a l.length c, .bool cl]] w fun e w' => e = .returned (.bool true) ∧ Below w.heap.size w w' := by
  have HA := Lib.hid hA
  have HWk := Lib.hid (fun w => wakes_any w)
  have hb2 := below2 w (.cells #[.int .i64 cap, .slice a l.length c, .bool cl] 24) (.cells #[.int .i64 cap, .slice a l.length c, .bool cl] 24)
  have hl2 := laid2 w (.cells #[.int .i64 cap, .slice a l.length c, .bool cl] 24) (.cells #[.int .i64 cap, .slice a l.length c, .bool cl] 24)
  have HG1 := Lib.hid (great1 cap a l.length c cl 24 (w.heap.size + 1) _ hl2.2)
  have HB0 := Lib.hid hb2
  have HL0 := Lib.hid hl2.1
  clear hA hb2 hl2
  by_cases hg : l.length ≤ 200 ∧ -1099511627776 ≤ cap
  case neg =>
    have hgb : (decide (200 < l.length) || decide (cap < -1099511627776)) = true := by simp; omega
    rw [hgb] at HG1
    clear hg hgb
    go_enter Try.func6, Try.ntmps6
    go_wp2_with fail
    with_reducible refine HG1.out.mono ?_
    rintro e w1 ⟨rfl, hB⟩
    have HB1 := Lib.hid (HB0.out.trans (hB.mono HB0.out.size))
    clear hB
    go_wp2_with fail
    with_reducible refine (HWk.out _).mono ?_
    rintro e w2 ⟨rfl, hB⟩
    have HB2 := Lib.hid (HB1.out.trans (hB.mono HB1.out.size))
    clear hB
    go_wp2_with fail
    go_ret
    exact ⟨rfl, HB2.out⟩
  have hgb : (decide (200 < l.length) || decide (cap < -1099511627776)) = false := by simp; omega
  rw [hgb] at HG1
  obtain ⟨hl200, hcap0⟩ := hg
  clear hgb
  obtain ⟨er3, cap3, L3, cl3, hR3⟩ := enterR_ex cap l cl
  obtain ⟨er4, cap4, L4, cl4, hR4⟩ := leaveR_ex cap l cl
  have hn3 := hR3.len
  have hn4 := hR4.len
  have HR3 := Lib.hid hR3
  have HR4 := Lib.hid hR4
  clear hR3 hR4
  go_enter Try.func6, Try.ntmps6
  go_wp2_with fail
  with_reducible refine HG1.out.mono ?_
  rintro e w1 ⟨rfl, hB⟩
  have hB1 := HB0.out.trans (hB.mono HB0.out.size)
  have hD1 := (hB.block _ (by simp; try omega)).trans HL0.out
  have hbb := below2 w1 (.cells #[.int .i64 cap, .slice a l.length c, .bool cl] 24) (.cells #[] 42)
  have hll := laid2 w1 (.cells #[.int .i64 cap, .slice a l.length c, .bool cl] 24) (.cells #[] 42)
  have HD2 := Lib.hid ((hbb.block _ (lt_of_block hD1)).trans hD1)
  have HU2 := Lib.hid hll.1
  have HB2 := Lib.hid (hB1.trans (hbb.mono hB1.size))
  have hD1lt := lt_of_block hD1
  obtain ⟨⟨d0, d1, d2⟩, d3, d4, d5⟩ := box3 hD1
  clear hB HG1 HB0 HL0 hB1 hD1 hbb hll
  go_wp2_with (at_builtin; refine LK.wpList_append_rows rfl _ _ rfl (w1.heap.size + 1) (.slice (some ⟨w1.heap.size + 1, 0, none⟩) 0 0) rfl [] (dst_bare _ _ _) a l.length c rfl l rfl (HA.out.below HB2.out) (by simp; omega) (by simp) ?_; intro a3 c3 w3 hDst hM hB3; rw [List.nil_append] at hM; have HM := Lib.hid (MineC.far hM); have hd3 := (hB3.block _ (by omega)).trans HD2.out; have hu3 := (hB3.block _ (by omega)).trans HU2.out; have HB3 := Lib.hid (HB2.out.trans (hB3.mono (by omega))); have HD3 := Lib.hid hd3; have HU3 := Lib.hid hu3; obtain ⟨⟨u0, u1, u2⟩, u3, u4, u5⟩ := box3 hu3; obtain ⟨⟨e0, e1, e2⟩, e3, e4, e5⟩ := box3 hd3; clear hDst hM hB3 hd3 hu3)
  have HD5 := Lib.hid ((Below.heap_setCell w3 ⟨w1.heap.size, 1, none⟩ (.slice a3 l.length c3) w.heap.size (by simp; omega)).trans HD3.out)
  have HU5 := Lib.hid (set_at HU3.out 1 (.slice a3 l.length c3))
  have HM5 := Lib.hid (HM.out.set (p := ⟨w1.heap.size, 1, none⟩) (by simp) (.slice a3 l.length c3)).row
  have HB5 := Lib.hid (HB3.out.setCell (p := ⟨w1.heap.size, 1, none⟩) (by simp; omega) (.slice a3 l.length c3))
  have HU5 : Hid ((w3.setCell ⟨w1.heap.size, 1, none⟩ (.slice a3 l.length c3)).heap[w1.heap.size]? = some (.cells #[.int .i64 cap, .slice a3 l.length c3, .bool cl] 24 (0, 0))) := HU5
  clear HM HB3 HD3 HU3 HB2 HD2 HU2 u0 u1 u2 u3 u4 u5 e0 e1 e2 e3 e4 e5 d0 d1 d2 d3 d4 d5
  generalize w3.setCell ⟨w1.heap.size, 1, none⟩ (.slice a3 l.length c3) = W5 at *
  generalize hUU : w1.heap.size = U at *
  have HC := Lib.hid (enter_any cap cl l er3 cap3 L3 cl3 HR3.out (by omega) hcap a c W5 (HA.out.below HB5.out))
  with_reducible refine HC.out.mono ?_
  rintro e w6 ⟨a6, c6, rfl, hL, hB⟩
  have hb6 := hB.alloc hB.size (.cells #[.int .i64 cap3, .slice a6 L3.length c6, .bool cl3] 24)
  have HBn := Lib.hid hb6
  have HX6 := Lib.hid (laid1 w6 (.cells #[.int .i64 cap3, .slice a6 L3.length c6, .bool cl3] 24))
  have HL6 := Lib.hid (hL.below (below1 w6 (.cells #[.int .i64 cap3, .slice a6 L3.length c6, .bool cl3] 24)))
  obtain ⟨ga, oa, hga, hna⟩ := Nums.of hL
  have HGA := Lib.hid hga
  have HNA := Lib.hid (hna.below (fun h => (hga h).2.2) (below1 w6 (.cells #[.int .i64 cap3, .slice a6 L3.length c6, .bool cl3] 24)))
  have HD6 := Lib.hid ((hb6.block _ (lt_of_block HD5.out)).trans HD5.out)
  have HB6 := Lib.hid (HB5.out.trans (hb6.mono HB5.out.size))
  have hs6 := hb6.size
  have hs6' : (w6.alloc (.cells #[.int .i64 cap3, .slice a6 L3.length c6, .bool cl3] 24)).heap.size = w6.heap.size + 1 := by simp
  have hs56 := hB.size
  have hA5 : W5.heap.size ≤ w6.heap.size := hB.size
  clear hL hB hb6 HC hga hna
  obtain ⟨⟨d0, d1, d2⟩, _⟩ := box3 HD6.out
  go_wp2_with fail
  generalize w6.alloc (.cells #[.int .i64 cap3, .slice a6 L3.length c6, .bool cl3] 24) = W6 at *
  generalize w6.heap.size = A at *
  have HC := Lib.hid (leave_any cap cl l er4 cap4 L4 cl4 HR4.out (by omega) hcap a c W6 (HA.out.below HB6.out))
  with_reducible refine HC.out.mono ?_
  rintro e w7 ⟨a7, c7, rfl, hL, hB⟩
  have hb8 := hB.alloc hB.size (.cells #[.int .i64 cap4, .slice a7 L4.length c7, .bool cl4] 24)
  obtain ⟨gb, ob, hgb, hnb⟩ := Nums.of hL
  have HGB := Lib.hid hgb
  have HNB := Lib.hid (hnb.below (fun h => (hgb h).2.2) (below1 w7 (.cells #[.int .i64 cap4, .slice a7 L4.length c7, .bool cl4] 24)))
  have HNA8 := Lib.hid (HNA.out.below (fun h => by have := HGA.out h; omega) hb8)
  have HX8 := Lib.hid ((hb8.block _ (lt_of_block HX6.out)).trans HX6.out)
  have HY8 := Lib.hid (laid1 w7 (.cells #[.int .i64 cap4, .slice a7 L4.length c7, .bool cl4] 24))
  have HBn8 := Lib.hid (HBn.out.trans (hb8.mono (by omega)))
  have hA6 : A < W6.heap.size := lt_of_block HX6.out
  have hB6 : W6.heap.size ≤ w7.heap.size := hB.size
  clear hL hB hb8 HC hgb hnb d0 d1 d2 HNA HX6 HBn HD6 HB6
  go_wp2_with fail
  generalize w7.alloc (.cells #[.int .i64 cap4, .slice a7 L4.length c7, .bool cl4] 24) = W8 at *
  generalize w7.heap.size = B at *
  generalize hn3e : L3.length = n3 at *
  generalize hn4e : L4.length = n4 at *
  clear HR3 HR4 hn3e hn4e HL6
  go_loopw [8] (fun u8 wr => ∃ k : Nat, u8 = .int .i64 k ∧ k ≤ n3 ∧ Hid (Below W5.heap.size W5 wr ∧ wr.heap[A]? = some (.cells #[.int .i64 cap3, .slice a6 n3 c6, .bool cl3] 24 (0, 0)) ∧ wr.heap[B]? = some (.cells #[.int .i64 cap4, .slice a7 n4 c7, .bool cl4] 24 (0, 0)) ∧ Nums wr ga oa n3 ∧ Nums wr gb ob n4)) (fun u _ => n3 - (intOf u).toNat)
  case atStart => exact ⟨0, rfl, by omega, Lib.hid ⟨HBn8.out, HX8.out, HY8.out, HNA8.out, HNB.out⟩⟩
  case round =>
    obtain ⟨k, rfl, hk, hH⟩ := hrel
    have HH := Lib.hid hH.out
    clear hH HBn8 HX8 HY8 HNA8 HNB
    obtain ⟨⟨x0, x1, x2⟩, _⟩ := box3 HH.out.2.1
    by_cases hlt : k < n3
    · have hlb : (k : Int) < (n3 : Int) := by omega
      have hk0 : (0 : Int) ≤ (k : Int) := by omega
      obtain ⟨rfl, hga1, hga2⟩ := HGA.out (by omega)
      obtain ⟨⟨v, hv⟩, hf⟩ := HH.out.2.2.2.1 k hlt
      have HST := Lib.hid (fun z => own_step (g := ga) (p := ⟨ga, oa + k * 6 + 2, none⟩) z _ rfl rfl HH.out.1 hga1 HH.out.2.1 HH.out.2.2.1 (by omega) (by omega) HH.out.2.2.2.1 HH.out.2.2.2.2)
      go_wp2_with fail
      go_region
      go_wp2_with fail
      go_roundw
      case rel => exact ⟨k + 1, by go_num, by omega, Lib.hid (HST.out _)⟩
      case measure => simp [intOf]; omega
    · obtain rfl : k = n3 := by omega
      go_wp2_with fail
      go_loopw [9] (fun u9 wr => ∃ j : Nat, u9 = .int .i64 j ∧ j ≤ n4 ∧ Hid (Below W5.heap.size W5 wr ∧ wr.heap[B]? = some (.cells #[.int .i64 cap4, .slice a7 n4 c7, .bool cl4] 24 (0, 0)) ∧ Nums wr gb ob n4)) (fun u _ => n4 - (intOf u).toNat)
      case atStart => exact ⟨0, rfl, by omega, Lib.hid ⟨HH.out.1, HH.out.2.2.1, HH.out.2.2.2.2⟩⟩
      case round =>
        obtain ⟨j, rfl, hj, hJ⟩ := hrel
        have HJ := Lib.hid hJ.out
        clear hJ HH x0 x1 x2
        obtain ⟨⟨x0, x1, x2⟩, _⟩ := box3 HJ.out.2.1
        by_cases hlt : j < n4
        · have hlb : (j : Int) < (n4 : Int) := by omega
          have hk0 : (0 : Int) ≤ (j : Int) := by omega
          obtain ⟨rfl, hgb1, hgb2⟩ := HGB.out (by omega)
          obtain ⟨⟨v, hv⟩, hf⟩ := HJ.out.2.2 j hlt
          have HST := Lib.hid (fun z => own_step (g := gb) (p := ⟨gb, ob + j * 6 + 2, none⟩) z _ rfl rfl HJ.out.1 (by omega) HJ.out.2.1 HJ.out.2.1 (by omega) (by omega) HJ.out.2.2 HJ.out.2.2)
          go_wp2_with fail
          go_region
          go_wp2_with fail
          go_roundw
          case rel => exact ⟨j + 1, by go_num, by omega, Lib.hid ⟨(HST.out _).1, (HST.out _).2.1, (HST.out _).2.2.2.1⟩⟩
          case measure => simp [intOf]; omega
        · obtain rfl : j = n4 := by omega
          have HDf := Lib.hid ((HJ.out.1.block _ (lt_of_block HD5.out)).trans HD5.out)
          have HUf := Lib.hid ((HJ.out.1.block _ (lt_of_block HU5.out)).trans HU5.out)
          have HBf := Lib.hid (HB5.out.trans (HJ.out.1.mono HB5.out.size))
          have HMf := Lib.hid (HM5.out.below HJ.out.1)
          have HAf := Lib.hid (HA.out.below HBf.out)
          have HS := Lib.hid (rsame_eq cap cl l a a3 c c3 wr (by omega) HAf.out HMf.out)
          obtain ⟨⟨d0, d1, d2⟩, _⟩ := box3 HDf.out
          obtain ⟨⟨u0, u1, u2⟩, _⟩ := box3 HUf.out
          go_wp2_with fail
          with_reducible refine HS.out.mono ?_
          rintro e v1 ⟨rfl, hB⟩
          have HB1 := Lib.hid (HBf.out.trans (hB.mono HBf.out.size))
          clear hB HS
          go_wp2_with fail
          with_reducible refine (HWk.out _).mono ?_
          rintro e v2 ⟨rfl, hB⟩
          have HB2 := Lib.hid (HB1.out.trans (hB.mono HB1.out.size))
          clear hB
          go_wp2_with fail
          go_ret
          exact ⟨rfl, HB2.out⟩
end Go.Proofs.Ytfplkjnnnbknoaa
