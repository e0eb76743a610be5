/- Dials of a world, looked through by the landed world. -/
import Derived.Test.YtciohjgcndgiaaaGreatDoorBoxes
import Derived.Test.YtciohjgcndgiaaaGreatDoorFind
import Derived.Test.YtciohjgcndgiaaaGreatDoorEvents
set_option linter.unusedSimpArgs false
set_option linter.unusedVariables false
namespace Go.Proofs.YtciohjgcndgiaaaGreatDoor
open Go.RowKit Go.Proofs.YtciohjgcndgiaaaGreatDoor.Kind

theorem text_iff (a b : ByteArray) : a.toList = b.toList ↔ a = b := by
  constructor
  · intro h
    have h2 : (a.toList == b.toList) = true := by simp [h]
    rw [text_eq] at h2
    exact of_decide_eq_true h2
  · rintro rfl
    rfl
theorem take_at {α : Type} {l : List α} {k : Nat} {x : α} (h : l[k]? = some x) : l.take (k + 1) = l.take k ++ [x] := by
  rw [List.take_add_one, h]
  rfl
theorem count_skip {α : Type} {q : α → Bool} {l : List α} {k : Nat} {x : α} (h : l[k]? = some x) (hq : q x = false) : (l.take (k + 1)).countP q = (l.take k).countP q := by
  rw [take_at h, List.countP_append]
  simp [hq]
theorem count_hit {α : Type} {q : α → Bool} {l : List α} {k : Nat} {x : α} (h : l[k]? = some x) (hq : q x = true) : (l.take (k + 1)).countP q = (l.take k).countP q + 1 := by
  rw [take_at h, List.countP_append]
  simp [hq]
theorem idxI_app {α : Type} (q : α → Bool) (l : List α) (x : α) : idxI q (l ++ [x]) = if l.countP q = 0 then (if q x = true then (l.length : Int) else -1) else idxI q l := by
  unfold idxI
  rw [List.findIdx?_append]
  cases hf : l.findIdx? q with
  | none =>
    have h0 : l.countP q = 0 := by
      rw [List.countP_eq_zero]
      intro z hz
      exact (List.findIdx?_eq_none_iff.1 hf) z hz ▸ (by simp)
    rw [if_pos h0]
    cases hx : q x <;> simp [List.findIdx?_cons, hx]
  | some i =>
    have h0 : ¬ l.countP q = 0 := by
      rw [List.countP_eq_zero]
      intro h
      obtain ⟨hi, hp, _⟩ := List.findIdx?_eq_some_iff_getElem.1 hf
      exact h _ (List.getElem_mem hi) hp
    rw [if_neg h0]
    simp
theorem idxI_skip {α : Type} {q : α → Bool} {l : List α} {k : Nat} {x : α} (h : l[k]? = some x) (hq : q x = false) : idxI q (l.take (k + 1)) = idxI q (l.take k) := by
  rw [take_at h, idxI_app, hq]
  split
  · rename_i h0
    simp only [Bool.false_eq_true, if_false]
    have h1 : (l.take k).findIdx? q = none := List.findIdx?_eq_none_iff.2 (fun z hz => by
      have := (List.countP_eq_zero.1 h0) z hz
      simpa using this)
    unfold idxI
    rw [h1]
  · rfl
theorem idxI_hit {α : Type} {q : α → Bool} {l : List α} {k : Nat} {x : α} (h : l[k]? = some x) (hq : q x = true) : idxI q (l.take (k + 1)) = if (l.take k).countP q = 0 then (k : Int) else idxI q (l.take k) := by
  have hk := (List.getElem?_eq_some_iff.1 h).1
  rw [take_at h, idxI_app, hq]
  simp only [if_true, List.length_take]
  rw [show min k l.length = k by omega]
set_option maxHeartbeats 2000000 in
set_option maxRecDepth 1000000 in
theorem by_is (x : Int) (y : Di) (g : Nat) (t : TypeId) (w : World) (hg : w.heap[g]? = some (.cells #[.int .i64 x] t (0, 0))) :
    Calls Tryz.prog 63 #[.agg #[.int .i64 y.by_, .int .i8 y.ad.f, .int .u16 y.ad.g0, .int .u16 y.ad.g1, .int .u16 y.ad.g2, .int .u16 y.ad.g3, .int .u16 y.ad.g4, .int .u16 y.ad.g5, .int .u16 y.ad.g6, .int .u16 y.ad.g7, .int .i64 y.ad.p, .int .i8 y.fate, .bool y.cut, .bool y.over], .pointer (some ⟨g, 0, none⟩)] w fun e w' => e = .returned (.bool (decide (y.by_ = x))) ∧ Below w.heap.size w w' := by
  have hlt := lt_heap' hg
  obtain ⟨c0, _⟩ := cell1 (((below1 w (.cells #[.int .i64 y.by_, .int .i8 y.ad.f, .int .u16 y.ad.g0, .int .u16 y.ad.g1, .int .u16 y.ad.g2, .int .u16 y.ad.g3, .int .u16 y.ad.g4, .int .u16 y.ad.g5, .int .u16 y.ad.g6, .int .u16 y.ad.g7, .int .i64 y.ad.p, .int .i8 y.fate, .bool y.cut, .bool y.over] 95)).block g hlt).trans hg)
  clear hg
  go_enter Tryz.func63, Tryz.ntmps63
  go_wp2_with fail
  go_ret
  exact ⟨by first | rfl | (simp; done) | (simp [Bool.beq_eq_decide_eq]; done) | (simp [Bool.beq_eq_decide_eq]; exact text_iff _ _) | (simp; done), below1 w _⟩

set_option maxHeartbeats 2000000 in
set_option maxRecDepth 1000000 in
theorem to_is (x : Ad) (y : Di) (g : Nat) (t : TypeId) (w : World) (hg : w.heap[g]? = some (.cells #[.int .i8 x.f, .int .u16 x.g0, .int .u16 x.g1, .int .u16 x.g2, .int .u16 x.g3, .int .u16 x.g4, .int .u16 x.g5, .int .u16 x.g6, .int .u16 x.g7, .int .i64 x.p] t (0, 0))) :
    Calls Tryz.prog 67 #[.agg #[.int .i64 y.by_, .int .i8 y.ad.f, .int .u16 y.ad.g0, .int .u16 y.ad.g1, .int .u16 y.ad.g2, .int .u16 y.ad.g3, .int .u16 y.ad.g4, .int .u16 y.ad.g5, .int .u16 y.ad.g6, .int .u16 y.ad.g7, .int .i64 y.ad.p, .int .i8 y.fate, .bool y.cut, .bool y.over], .pointer (some ⟨g, 0, none⟩)] w fun e w' => e = .returned (.bool (decide (y.ad = x))) ∧ Below w.heap.size w w' := by
  have hlt := lt_heap' hg
  obtain ⟨⟨c0, c1, c2, c3, c4⟩, c5, c6, c7, c8, c9⟩ := box10 (((below1 w (.cells #[.int .i64 y.by_, .int .i8 y.ad.f, .int .u16 y.ad.g0, .int .u16 y.ad.g1, .int .u16 y.ad.g2, .int .u16 y.ad.g3, .int .u16 y.ad.g4, .int .u16 y.ad.g5, .int .u16 y.ad.g6, .int .u16 y.ad.g7, .int .i64 y.ad.p, .int .i8 y.fate, .bool y.cut, .bool y.over] 95)).block g hlt).trans hg)
  have hE := eql_adC y.ad x
  have hG := guard_ad
  clear hg
  go_enter Tryz.func67, Tryz.ntmps67
  go_wp2_with fail
  go_ret
  exact ⟨by first | rfl | (simp; done) | (simp [Bool.beq_eq_decide_eq]; done) | (simp [Bool.beq_eq_decide_eq]; exact text_iff _ _) | (simp; done), below1 w _⟩

set_option maxHeartbeats 8000000 in
set_option maxRecDepth 1000000 in
theorem those_by (x : Int) (g : Nat) (t : TypeId) (l : List Di) (m : Nat) (hm : m = l.length) (a : Option Addr) (c : Nat) (w : World) (hg : w.heap[g]? = some (.cells #[.int .i64 x] t (0, 0))) (hR : DK.RowC w a c l) :
    Calls Tryz.prog 43 #[.slice a m c, .func (.func 63) #[] #[.pointer (some ⟨g, 0, none⟩)]] w fun e w' => e = .returned (.tuple #[.int .i64 (idxI (fun z => decide (z.by_ = x)) l), .int .i64 (l.countP (fun z => decide (z.by_ = x)) : Nat)]) ∧ Below w.heap.size w w' := by
  subst hm
  have hlen : (l.length : Int) ≤ 9223372036854775807 := len_intC _ (Nat.le_trans hR.1 hR.2.1)
  have HR := Lib.hid hR
  have HG := Lib.hid hg
  have hgl := lt_heap' hg
  clear hg
  clear hR
  obtain ⟨q, hq⟩ : ∃ q : Di → Bool, q = (fun z => decide (z.by_ = x)) := ⟨_, rfl⟩
  rw [← hq]
  have HQ := Lib.hid (fun z => congrFun hq z)
  clear hq
  go_enter Tryz.func43, Tryz.ntmps43
  go_wp2_with fail
  go_loopw [4, 5, 10] (fun r m i wr => ∃ (k : Nat), r = .int .i64 (idxI q (l.take k)) ∧ m = .int .i64 ((l.take k).countP q : Nat) ∧ i = .int .i64 k ∧ k ≤ l.length ∧ Below w.heap.size w wr) (fun _ _ i _ => l.length - (intOf i).toNat)
  case atStart => exact ⟨0, by first | rfl | simp [idxI], by first | rfl | simp, rfl, by omega, Below.refl _ _⟩
  case round =>
    obtain ⟨k, rfl, rfl, rfl, hk, hb⟩ := hrel
    have HB := Lib.hid hb
    have hbs := hb.size
    clear hb
    by_cases hki : k < l.length
    · obtain ⟨y, hy⟩ : ∃ y, l[k]? = some y := ⟨_, List.getElem?_eq_getElem hki⟩
      obtain ⟨b, o, rfl, hbl, hat⟩ := HR.out.2.2.2 (by omega)
      obtain ⟨y0, y1, y2, y3, y4, y5, y6, y7, y8, y9, y10, y11, y12, y13⟩ := DK.cells (hat.below HB.out hbl) hy
      have hkI : (k : Int) < (l.length : Int) := by omega
      have hkw : IntKind.i64.wrap ((k : Int) + 1) = (k : Int) + 1 := by rw [IntKind.wrap_i64]; omega
      have hc1 : (l.take k).countP q ≤ k := Nat.le_trans List.countP_le_length (by simp; omega)
      have hcw : IntKind.i64.wrap (((l.take k).countP q : Nat) + 1 : Int) = ((l.take k).countP q : Nat) + 1 := by rw [IntKind.wrap_i64]; omega
      have hb1 := below1 wr (.cells #[.int .i64 y.by_, .int .i8 y.ad.f, .int .u16 y.ad.g0, .int .u16 y.ad.g1, .int .u16 y.ad.g2, .int .u16 y.ad.g3, .int .u16 y.ad.g4, .int .u16 y.ad.g5, .int .u16 y.ad.g6, .int .u16 y.ad.g7, .int .i64 y.ad.p, .int .i8 y.fate, .bool y.cut, .bool y.over] 95)
      have hL1 := laid1 wr (.cells #[.int .i64 y.by_, .int .i8 y.ad.f, .int .u16 y.ad.g0, .int .u16 y.ad.g1, .int .u16 y.ad.g2, .int .u16 y.ad.g3, .int .u16 y.ad.g4, .int .u16 y.ad.g5, .int .u16 y.ad.g6, .int .u16 y.ad.g7, .int .i64 y.ad.p, .int .i8 y.fate, .bool y.cut, .bool y.over] 95)
      go_upto_region 5 with fail
      obtain ⟨w1, hw1⟩ : ∃ X, X = wr.alloc (.cells #[.int .i64 y.by_, .int .i8 y.ad.f, .int .u16 y.ad.g0, .int .u16 y.ad.g1, .int .u16 y.ad.g2, .int .u16 y.ad.g3, .int .u16 y.ad.g4, .int .u16 y.ad.g5, .int .u16 y.ad.g6, .int .u16 y.ad.g7, .int .i64 y.ad.p, .int .i8 y.fate, .bool y.cut, .bool y.over] 95) := ⟨_, rfl⟩
      rw [← hw1] at hb1 hL1 ⊢
      have hsz : wr.heap.size < w1.heap.size := by rw [hw1]; simp
      clear hw1 y0 y1 y2 y3 y4 y5 y6 y7 y8 y9 y10 y11 y12 y13
      have HB1 := Lib.hid (HB.out.trans (hb1.mono hbs))
      have hB1 := HB1.out
      have HC := Lib.hid (by_is x y g t w1 ((hB1.block g hgl).trans HG.out))
      have HX := Lib.hid hy
      clear hy hat hb1
      generalize wr.heap.size = gy at *
      have hld := load_Di hL1
      obtain ⟨⟨z0, z1, z2, z3, z4, z5, z6, z7, z8, z9, z10, z11, z12, z13⟩, _⟩ := boxes14 hL1
      go_wp2_with fail
      rw [← HQ.out y] at HC
      with_reducible refine HC.out.mono ?_
      rintro e w2 ⟨rfl, hb2⟩
      have HB2 := Lib.hid (HB1.out.trans (hb2.mono HB1.out.size))
      clear hb2 HC hld z0 z1 z2 z3 z4 z5 z6 z7 z8 z9 z10 z11 z12 z13 hB1 hL1
      cases hp : q y with
      | false =>
        have HN := Lib.hid (idxI_skip HX.out hp)
        have HM := Lib.hid (count_skip HX.out hp)
        clear hp
        go_wp2_with fail
        go_roundw
        case rel => exact ⟨k + 1, by rw [HN.out], by rw [HM.out], by go_num, by omega, HB2.out⟩
        case measure => simp [intOf]; omega
      | true =>
        have HN := Lib.hid (idxI_hit HX.out hp)
        have HM := Lib.hid (count_hit HX.out hp)
        clear hp
        by_cases h0 : (l.take k).countP q = 0
        · have hz : ((((l.take k).countP q : Nat) : Int) == 0) = true := by rw [h0]; rfl
          have HZ := Lib.hid h0
          clear h0
          go_wp2_with fail
          go_roundw
          case rel => exact ⟨k + 1, by rw [HN.out, if_pos HZ.out], by rw [HM.out]; go_num, by go_num, by omega, HB2.out⟩
          case measure => simp [intOf]; omega
        · have hz : ((((l.take k).countP q : Nat) : Int) == 0) = false := by simp only [beq_eq_false_iff_ne, ne_eq]; omega
          have HZ := Lib.hid h0
          clear h0
          go_wp2_with fail
          go_roundw
          case rel => exact ⟨k + 1, by rw [HN.out, if_neg HZ.out], by rw [HM.out]; go_num, by go_num, by omega, HB2.out⟩
          case measure => simp [intOf]; omega
    · obtain rfl : k = l.length := by omega
      go_wp2_with fail
      go_ret2
      exact ⟨by first | rfl | (simp [List.take_length]; done) | (rw [List.take_length]; rfl), HB.out⟩

set_option maxHeartbeats 8000000 in
set_option maxRecDepth 1000000 in
theorem those_to (x : Ad) (g : Nat) (t : TypeId) (l : List Di) (m : Nat) (hm : m = l.length) (a : Option Addr) (c : Nat) (w : World) (hg : w.heap[g]? = some (.cells #[.int .i8 x.f, .int .u16 x.g0, .int .u16 x.g1, .int .u16 x.g2, .int .u16 x.g3, .int .u16 x.g4, .int .u16 x.g5, .int .u16 x.g6, .int .u16 x.g7, .int .i64 x.p] t (0, 0))) (hR : DK.RowC w a c l) :
    Calls Tryz.prog 43 #[.slice a m c, .func (.func 67) #[] #[.pointer (some ⟨g, 0, none⟩)]] w fun e w' => e = .returned (.tuple #[.int .i64 (idxI (fun z => decide (z.ad = x)) l), .int .i64 (l.countP (fun z => decide (z.ad = x)) : Nat)]) ∧ Below w.heap.size w w' := by
  subst hm
  have hlen : (l.length : Int) ≤ 9223372036854775807 := len_intC _ (Nat.le_trans hR.1 hR.2.1)
  have HR := Lib.hid hR
  have HG := Lib.hid hg
  have hgl := lt_heap' hg
  clear hg
  clear hR
  obtain ⟨q, hq⟩ : ∃ q : Di → Bool, q = (fun z => decide (z.ad = x)) := ⟨_, rfl⟩
  rw [← hq]
  have HQ := Lib.hid (fun z => congrFun hq z)
  clear hq
  go_enter Tryz.func43, Tryz.ntmps43
  go_wp2_with fail
  go_loopw [4, 5, 10] (fun r m i wr => ∃ (k : Nat), r = .int .i64 (idxI q (l.take k)) ∧ m = .int .i64 ((l.take k).countP q : Nat) ∧ i = .int .i64 k ∧ k ≤ l.length ∧ Below w.heap.size w wr) (fun _ _ i _ => l.length - (intOf i).toNat)
  case atStart => exact ⟨0, by first | rfl | simp [idxI], by first | rfl | simp, rfl, by omega, Below.refl _ _⟩
  case round =>
    obtain ⟨k, rfl, rfl, rfl, hk, hb⟩ := hrel
    have HB := Lib.hid hb
    have hbs := hb.size
    clear hb
    by_cases hki : k < l.length
    · obtain ⟨y, hy⟩ : ∃ y, l[k]? = some y := ⟨_, List.getElem?_eq_getElem hki⟩
      obtain ⟨b, o, rfl, hbl, hat⟩ := HR.out.2.2.2 (by omega)
      obtain ⟨y0, y1, y2, y3, y4, y5, y6, y7, y8, y9, y10, y11, y12, y13⟩ := DK.cells (hat.below HB.out hbl) hy
      have hkI : (k : Int) < (l.length : Int) := by omega
      have hkw : IntKind.i64.wrap ((k : Int) + 1) = (k : Int) + 1 := by rw [IntKind.wrap_i64]; omega
      have hc1 : (l.take k).countP q ≤ k := Nat.le_trans List.countP_le_length (by simp; omega)
      have hcw : IntKind.i64.wrap (((l.take k).countP q : Nat) + 1 : Int) = ((l.take k).countP q : Nat) + 1 := by rw [IntKind.wrap_i64]; omega
      have hb1 := below1 wr (.cells #[.int .i64 y.by_, .int .i8 y.ad.f, .int .u16 y.ad.g0, .int .u16 y.ad.g1, .int .u16 y.ad.g2, .int .u16 y.ad.g3, .int .u16 y.ad.g4, .int .u16 y.ad.g5, .int .u16 y.ad.g6, .int .u16 y.ad.g7, .int .i64 y.ad.p, .int .i8 y.fate, .bool y.cut, .bool y.over] 95)
      have hL1 := laid1 wr (.cells #[.int .i64 y.by_, .int .i8 y.ad.f, .int .u16 y.ad.g0, .int .u16 y.ad.g1, .int .u16 y.ad.g2, .int .u16 y.ad.g3, .int .u16 y.ad.g4, .int .u16 y.ad.g5, .int .u16 y.ad.g6, .int .u16 y.ad.g7, .int .i64 y.ad.p, .int .i8 y.fate, .bool y.cut, .bool y.over] 95)
      go_upto_region 5 with fail
      obtain ⟨w1, hw1⟩ : ∃ X, X = wr.alloc (.cells #[.int .i64 y.by_, .int .i8 y.ad.f, .int .u16 y.ad.g0, .int .u16 y.ad.g1, .int .u16 y.ad.g2, .int .u16 y.ad.g3, .int .u16 y.ad.g4, .int .u16 y.ad.g5, .int .u16 y.ad.g6, .int .u16 y.ad.g7, .int .i64 y.ad.p, .int .i8 y.fate, .bool y.cut, .bool y.over] 95) := ⟨_, rfl⟩
      rw [← hw1] at hb1 hL1 ⊢
      have hsz : wr.heap.size < w1.heap.size := by rw [hw1]; simp
      clear hw1 y0 y1 y2 y3 y4 y5 y6 y7 y8 y9 y10 y11 y12 y13
      have HB1 := Lib.hid (HB.out.trans (hb1.mono hbs))
      have hB1 := HB1.out
      have HC := Lib.hid (to_is x y g t w1 ((hB1.block g hgl).trans HG.out))
      have HX := Lib.hid hy
      clear hy hat hb1
      generalize wr.heap.size = gy at *
      have hld := load_Di hL1
      obtain ⟨⟨z0, z1, z2, z3, z4, z5, z6, z7, z8, z9, z10, z11, z12, z13⟩, _⟩ := boxes14 hL1
      go_wp2_with fail
      rw [← HQ.out y] at HC
      with_reducible refine HC.out.mono ?_
      rintro e w2 ⟨rfl, hb2⟩
      have HB2 := Lib.hid (HB1.out.trans (hb2.mono HB1.out.size))
      clear hb2 HC hld z0 z1 z2 z3 z4 z5 z6 z7 z8 z9 z10 z11 z12 z13 hB1 hL1
      cases hp : q y with
      | false =>
        have HN := Lib.hid (idxI_skip HX.out hp)
        have HM := Lib.hid (count_skip HX.out hp)
        clear hp
        go_wp2_with fail
        go_roundw
        case rel => exact ⟨k + 1, by rw [HN.out], by rw [HM.out], by go_num, by omega, HB2.out⟩
        case measure => simp [intOf]; omega
      | true =>
        have HN := Lib.hid (idxI_hit HX.out hp)
        have HM := Lib.hid (count_hit HX.out hp)
        clear hp
        by_cases h0 : (l.take k).countP q = 0
        · have hz : ((((l.take k).countP q : Nat) : Int) == 0) = true := by rw [h0]; rfl
          have HZ := Lib.hid h0
          clear h0
          go_wp2_with fail
          go_roundw
          case rel => exact ⟨k + 1, by rw [HN.out, if_pos HZ.out], by rw [HM.out]; go_num, by go_num, by omega, HB2.out⟩
          case measure => simp [intOf]; omega
        · have hz : ((((l.take k).countP q : Nat) : Int) == 0) = false := by simp only [beq_eq_false_iff_ne, ne_eq]; omega
          have HZ := Lib.hid h0
          clear h0
          go_wp2_with fail
          go_roundw
          case rel => exact ⟨k + 1, by rw [HN.out, if_neg HZ.out], by rw [HM.out]; go_num, by go_num, by omega, HB2.out⟩
          case measure => simp [intOf]; omega
    · obtain rfl : k = l.length := by omega
      go_wp2_with fail
      go_ret2
      exact ⟨by first | rfl | (simp [List.take_length]; done) | (rw [List.take_length]; rfl), HB.out⟩

end Go.Proofs.YtciohjgcndgiaaaGreatDoor
