/- Lookups of a world, looked through by the landed world. -/
import Derived.Test.YtciohjgcndgiaaaGreatDoorBoxes
import Derived.Test.YtciohjgcndgiaaaGreatDoorThose
set_option linter.unusedSimpArgs false
set_option linter.unusedVariables false
namespace Go.Proofs.YtciohjgcndgiaaaGreatDoor
open Go.RowKit Go.Proofs.YtciohjgcndgiaaaGreatDoor.Kind

set_option maxHeartbeats 2000000 in
set_option maxRecDepth 1000000 in
theorem lby_is (x : Int) (y : Lo) (g : Nat) (t : TypeId) (w : World) (hg : w.heap[g]? = some (.cells #[.int .i64 x] t (0, 0))) :
    Calls Tryz.prog 51 #[.agg #[.int .i64 y.by_, .string y.name, .int .i64 y.nth, .bool y.over], .pointer (some ⟨g, 0, none⟩)] w fun e w' => e = .returned (.bool (decide (y.by_ = x))) ∧ Below w.heap.size w w' := by
  have hlt := lt_heap' hg
  obtain ⟨c0, _⟩ := cell1 (((below1 w (.cells #[.int .i64 y.by_, .string y.name, .int .i64 y.nth, .bool y.over] 77)).block g hlt).trans hg)
  clear hg
  go_enter Tryz.func51, Tryz.ntmps51
  go_wp2_with fail
  go_ret
  exact ⟨by first | rfl | (simp; done) | (simp [Bool.beq_eq_decide_eq]; done) | (simp [Bool.beq_eq_decide_eq]; exact text_iff _ _) | (simp; done), below1 w _⟩

set_option maxHeartbeats 2000000 in
set_option maxRecDepth 1000000 in
theorem lof_is (x : ByteArray) (y : Lo) (g : Nat) (t : TypeId) (w : World) (hg : w.heap[g]? = some (.cells #[.string x] t (0, 0))) :
    Calls Tryz.prog 52 #[.agg #[.int .i64 y.by_, .string y.name, .int .i64 y.nth, .bool y.over], .pointer (some ⟨g, 0, none⟩)] w fun e w' => e = .returned (.bool (decide (y.name = x))) ∧ Below w.heap.size w w' := by
  have hlt := lt_heap' hg
  obtain ⟨c0, _⟩ := cell1 (((below1 w (.cells #[.int .i64 y.by_, .string y.name, .int .i64 y.nth, .bool y.over] 77)).block g hlt).trans hg)
  clear hg
  go_enter Tryz.func52, Tryz.ntmps52
  go_wp2_with fail
  go_ret
  exact ⟨by first | rfl | (simp; done) | (simp [Bool.beq_eq_decide_eq]; done) | (simp [Bool.beq_eq_decide_eq]; exact text_iff _ _) | (simp; done), below1 w _⟩

set_option maxHeartbeats 8000000 in
set_option maxRecDepth 1000000 in
theorem those_lby (x : Int) (g : Nat) (t : TypeId) (l : List Lo) (m : Nat) (hm : m = l.length) (a : Option Addr) (c : Nat) (w : World) (hg : w.heap[g]? = some (.cells #[.int .i64 x] t (0, 0))) (hR : LK.RowC w a c l) :
    Calls Tryz.prog 50 #[.slice a m c, .func (.func 51) #[] #[.pointer (some ⟨g, 0, none⟩)]] w fun e w' => e = .returned (.tuple #[.int .i64 (idxI (fun z => decide (z.by_ = x)) l), .int .i64 (l.countP (fun z => decide (z.by_ = x)) : Nat)]) ∧ Below w.heap.size w w' := by
  subst hm
  have hlen : (l.length : Int) ≤ 9223372036854775807 := len_intC _ (Nat.le_trans hR.1 hR.2.1)
  have HR := Lib.hid hR
  have HG := Lib.hid hg
  have hgl := lt_heap' hg
  clear hg
  clear hR
  obtain ⟨q, hq⟩ : ∃ q : Lo → Bool, q = (fun z => decide (z.by_ = x)) := ⟨_, rfl⟩
  rw [← hq]
  have HQ := Lib.hid (fun z => congrFun hq z)
  clear hq
  go_enter Tryz.func50, Tryz.ntmps50
  go_wp2_with fail
  go_loopw [4, 5, 10] (fun r m i wr => ∃ (k : Nat), r = .int .i64 (idxI q (l.take k)) ∧ m = .int .i64 ((l.take k).countP q : Nat) ∧ i = .int .i64 k ∧ k ≤ l.length ∧ Below w.heap.size w wr) (fun _ _ i _ => l.length - (intOf i).toNat)
  case atStart => exact ⟨0, by first | rfl | simp [idxI], by first | rfl | simp, rfl, by omega, Below.refl _ _⟩
  case round =>
    obtain ⟨k, rfl, rfl, rfl, hk, hb⟩ := hrel
    have HB := Lib.hid hb
    have hbs := hb.size
    clear hb
    by_cases hki : k < l.length
    · obtain ⟨y, hy⟩ : ∃ y, l[k]? = some y := ⟨_, List.getElem?_eq_getElem hki⟩
      obtain ⟨b, o, rfl, hbl, hat⟩ := HR.out.2.2.2 (by omega)
      obtain ⟨y0, y1, y2, y3⟩ := LK.cells (hat.below HB.out hbl) hy
      have hkI : (k : Int) < (l.length : Int) := by omega
      have hkw : IntKind.i64.wrap ((k : Int) + 1) = (k : Int) + 1 := by rw [IntKind.wrap_i64]; omega
      have hc1 : (l.take k).countP q ≤ k := Nat.le_trans List.countP_le_length (by simp; omega)
      have hcw : IntKind.i64.wrap (((l.take k).countP q : Nat) + 1 : Int) = ((l.take k).countP q : Nat) + 1 := by rw [IntKind.wrap_i64]; omega
      have hb1 := below1 wr (.cells #[.int .i64 y.by_, .string y.name, .int .i64 y.nth, .bool y.over] 77)
      have hL1 := laid1 wr (.cells #[.int .i64 y.by_, .string y.name, .int .i64 y.nth, .bool y.over] 77)
      go_upto_region 5 with fail
      obtain ⟨w1, hw1⟩ : ∃ X, X = wr.alloc (.cells #[.int .i64 y.by_, .string y.name, .int .i64 y.nth, .bool y.over] 77) := ⟨_, rfl⟩
      rw [← hw1] at hb1 hL1 ⊢
      have hsz : wr.heap.size < w1.heap.size := by rw [hw1]; simp
      clear hw1 y0 y1 y2 y3
      have HB1 := Lib.hid (HB.out.trans (hb1.mono hbs))
      have hB1 := HB1.out
      have HC := Lib.hid (lby_is x y g t w1 ((hB1.block g hgl).trans HG.out))
      have HX := Lib.hid hy
      clear hy hat hb1
      generalize wr.heap.size = gy at *
      have hld := load_Lo hL1
      obtain ⟨⟨z0, z1, z2, z3⟩, _⟩ := boxes4 hL1
      go_wp2_with fail
      rw [← HQ.out y] at HC
      with_reducible refine HC.out.mono ?_
      rintro e w2 ⟨rfl, hb2⟩
      have HB2 := Lib.hid (HB1.out.trans (hb2.mono HB1.out.size))
      clear hb2 HC hld z0 z1 z2 z3  hB1 hL1
      cases hp : q y with
      | false =>
        have HN := Lib.hid (idxI_skip HX.out hp)
        have HM := Lib.hid (count_skip HX.out hp)
        clear hp
        go_wp2_with fail
        go_roundw
        case rel => exact ⟨k + 1, by rw [HN.out], by rw [HM.out], by go_num, by omega, HB2.out⟩
        case measure => simp [intOf]; omega
      | true =>
        have HN := Lib.hid (idxI_hit HX.out hp)
        have HM := Lib.hid (count_hit HX.out hp)
        clear hp
        by_cases h0 : (l.take k).countP q = 0
        · have hz : ((((l.take k).countP q : Nat) : Int) == 0) = true := by rw [h0]; rfl
          have HZ := Lib.hid h0
          clear h0
          go_wp2_with fail
          go_roundw
          case rel => exact ⟨k + 1, by rw [HN.out, if_pos HZ.out], by rw [HM.out]; go_num, by go_num, by omega, HB2.out⟩
          case measure => simp [intOf]; omega
        · have hz : ((((l.take k).countP q : Nat) : Int) == 0) = false := by simp only [beq_eq_false_iff_ne, ne_eq]; omega
          have HZ := Lib.hid h0
          clear h0
          go_wp2_with fail
          go_roundw
          case rel => exact ⟨k + 1, by rw [HN.out, if_neg HZ.out], by rw [HM.out]; go_num, by go_num, by omega, HB2.out⟩
          case measure => simp [intOf]; omega
    · obtain rfl : k = l.length := by omega
      go_wp2_with fail
      go_ret2
      exact ⟨by first | rfl | (simp [List.take_length]; done) | (rw [List.take_length]; rfl), HB.out⟩

set_option maxHeartbeats 8000000 in
set_option maxRecDepth 1000000 in
theorem those_lof (x : ByteArray) (g : Nat) (t : TypeId) (l : List Lo) (m : Nat) (hm : m = l.length) (a : Option Addr) (c : Nat) (w : World) (hg : w.heap[g]? = some (.cells #[.string x] t (0, 0))) (hR : LK.RowC w a c l) :
    Calls Tryz.prog 50 #[.slice a m c, .func (.func 52) #[] #[.pointer (some ⟨g, 0, none⟩)]] w fun e w' => e = .returned (.tuple #[.int .i64 (idxI (fun z => decide (z.name = x)) l), .int .i64 (l.countP (fun z => decide (z.name = x)) : Nat)]) ∧ Below w.heap.size w w' := by
  subst hm
  have hlen : (l.length : Int) ≤ 9223372036854775807 := len_intC _ (Nat.le_trans hR.1 hR.2.1)
  have HR := Lib.hid hR
  have HG := Lib.hid hg
  have hgl := lt_heap' hg
  clear hg
  clear hR
  obtain ⟨q, hq⟩ : ∃ q : Lo → Bool, q = (fun z => decide (z.name = x)) := ⟨_, rfl⟩
  rw [← hq]
  have HQ := Lib.hid (fun z => congrFun hq z)
  clear hq
  go_enter Tryz.func50, Tryz.ntmps50
  go_wp2_with fail
  go_loopw [4, 5, 10] (fun r m i wr => ∃ (k : Nat), r = .int .i64 (idxI q (l.take k)) ∧ m = .int .i64 ((l.take k).countP q : Nat) ∧ i = .int .i64 k ∧ k ≤ l.length ∧ Below w.heap.size w wr) (fun _ _ i _ => l.length - (intOf i).toNat)
  case atStart => exact ⟨0, by first | rfl | simp [idxI], by first | rfl | simp, rfl, by omega, Below.refl _ _⟩
  case round =>
    obtain ⟨k, rfl, rfl, rfl, hk, hb⟩ := hrel
    have HB := Lib.hid hb
    have hbs := hb.size
    clear hb
    by_cases hki : k < l.length
    · obtain ⟨y, hy⟩ : ∃ y, l[k]? = some y := ⟨_, List.getElem?_eq_getElem hki⟩
      obtain ⟨b, o, rfl, hbl, hat⟩ := HR.out.2.2.2 (by omega)
      obtain ⟨y0, y1, y2, y3⟩ := LK.cells (hat.below HB.out hbl) hy
      have hkI : (k : Int) < (l.length : Int) := by omega
      have hkw : IntKind.i64.wrap ((k : Int) + 1) = (k : Int) + 1 := by rw [IntKind.wrap_i64]; omega
      have hc1 : (l.take k).countP q ≤ k := Nat.le_trans List.countP_le_length (by simp; omega)
      have hcw : IntKind.i64.wrap (((l.take k).countP q : Nat) + 1 : Int) = ((l.take k).countP q : Nat) + 1 := by rw [IntKind.wrap_i64]; omega
      have hb1 := below1 wr (.cells #[.int .i64 y.by_, .string y.name, .int .i64 y.nth, .bool y.over] 77)
      have hL1 := laid1 wr (.cells #[.int .i64 y.by_, .string y.name, .int .i64 y.nth, .bool y.over] 77)
      go_upto_region 5 with fail
      obtain ⟨w1, hw1⟩ : ∃ X, X = wr.alloc (.cells #[.int .i64 y.by_, .string y.name, .int .i64 y.nth, .bool y.over] 77) := ⟨_, rfl⟩
      rw [← hw1] at hb1 hL1 ⊢
      have hsz : wr.heap.size < w1.heap.size := by rw [hw1]; simp
      clear hw1 y0 y1 y2 y3
      have HB1 := Lib.hid (HB.out.trans (hb1.mono hbs))
      have hB1 := HB1.out
      have HC := Lib.hid (lof_is x y g t w1 ((hB1.block g hgl).trans HG.out))
      have HX := Lib.hid hy
      clear hy hat hb1
      generalize wr.heap.size = gy at *
      have hld := load_Lo hL1
      obtain ⟨⟨z0, z1, z2, z3⟩, _⟩ := boxes4 hL1
      go_wp2_with fail
      rw [← HQ.out y] at HC
      with_reducible refine HC.out.mono ?_
      rintro e w2 ⟨rfl, hb2⟩
      have HB2 := Lib.hid (HB1.out.trans (hb2.mono HB1.out.size))
      clear hb2 HC hld z0 z1 z2 z3  hB1 hL1
      cases hp : q y with
      | false =>
        have HN := Lib.hid (idxI_skip HX.out hp)
        have HM := Lib.hid (count_skip HX.out hp)
        clear hp
        go_wp2_with fail
        go_roundw
        case rel => exact ⟨k + 1, by rw [HN.out], by rw [HM.out], by go_num, by omega, HB2.out⟩
        case measure => simp [intOf]; omega
      | true =>
        have HN := Lib.hid (idxI_hit HX.out hp)
        have HM := Lib.hid (count_hit HX.out hp)
        clear hp
        by_cases h0 : (l.take k).countP q = 0
        · have hz : ((((l.take k).countP q : Nat) : Int) == 0) = true := by rw [h0]; rfl
          have HZ := Lib.hid h0
          clear h0
          go_wp2_with fail
          go_roundw
          case rel => exact ⟨k + 1, by rw [HN.out, if_pos HZ.out], by rw [HM.out]; go_num, by go_num, by omega, HB2.out⟩
          case measure => simp [intOf]; omega
        · have hz : ((((l.take k).countP q : Nat) : Int) == 0) = false := by simp only [beq_eq_false_iff_ne, ne_eq]; omega
          have HZ := Lib.hid h0
          clear h0
          go_wp2_with fail
          go_roundw
          case rel => exact ⟨k + 1, by rw [HN.out, if_neg HZ.out], by rw [HM.out]; go_num, by go_num, by omega, HB2.out⟩
          case measure => simp [intOf]; omega
    · obtain rfl : k = l.length := by omega
      go_wp2_with fail
      go_ret2
      exact ⟨by first | rfl | (simp [List.take_length]; done) | (rw [List.take_length]; rfl), HB.out⟩

end Go.Proofs.YtciohjgcndgiaaaGreatDoor
