/- AddrBack: texts and rows told, read, told. -/
import Derived.Test.YtbejnnkdgcelmaaDoorRowR
set_option linter.unusedSimpArgs false
set_option linter.unusedVariables false
namespace Go.Proofs.YtbejnnkdgcelmaaDoor
open Go.RowKit

theorem P.rowP_not (l : List Ad) (h : P.rowP l = none) (hl : l.length ≤ 16) : l.all mayP = false := by
  unfold P.rowP at h
  split at h
  · rename_i h'
    rcases h' with h' | h'
    · omega
    · exact h'
  · cases h
theorem P.rowP_read (l : List Ad) (r : List UInt8) (h : P.rowP l = some r) (hok : ∀ x ∈ l, x.Ok) : l.length ≤ 16 ∧ r.length ≤ 2016 ∧ P.readP r = some l := by
  unfold P.rowP at h
  split at h
  · cases h
  · rename_i h'
    rw [not_or] at h'
    have hm : l.all mayP = true := by
      cases h2 : l.all mayP with
      | true => rfl
      | false => exact absurd h2 h'.2
    have h3 := P.read_row l (by omega) (fun a ha => ⟨List.all_eq_true.1 hm a ha, hok a ha⟩)
    have h4 := P.row_len l (by omega) hm hok
    injection h with h
    subst h
    exact ⟨by omega, h4, h3⟩
theorem a10_new (f g0 g1 g2 g3 g4 g5 g6 g7 p : Int) (w : World) (t : TypeId) : A10 (w.alloc (Obj.cells #[.int .i8 f, .int .u16 g0, .int .u16 g1, .int .u16 g2, .int .u16 g3, .int .u16 g4, .int .u16 g5, .int .u16 g6, .int .u16 g7, .int .i64 p] t)) w.heap.size f g0 g1 g2 g3 g4 g5 g6 g7 p := by
  constructor
  all_goals first | (rw [World.cell?_alloc_new]; rfl) | (intro j; exact World.frozen?_alloc_new _ _ _ _)
set_option maxHeartbeats 8000000 in
set_option maxRecDepth 1000000 in
theorem back_walk (x : Ad) (s : ByteArray) (l : List Ad) (a : Option Addr) (c : Nat) (w : World) (hx : x.Ok) (hl : ∀ y ∈ l, y.Ok) (hA : RowAt w a l) (hE : Env w) :
    Calls Tryd.prog 4 #[x.v, .string s, .slice a l.length c] w fun e w' => e = .returned (.bool true) ∧ Below w.heap.size w w' := by
  have HX := Lib.hid hx
  have HL := Lib.hid hl
  have HA := Lib.hid hA
  have HE := Lib.hid hE
  have HNQ := Lib.hid neq_self
  have HGD := Lib.hid guard_addr
  simp only [Ad.v, Ad.enc]
  clear hx hl hA hE
  have hb1 : Below w.heap.size w (w.alloc (Obj.cells #[.int .i8 x.f, .int .u16 x.g0, .int .u16 x.g1, .int .u16 x.g2, .int .u16 x.g3, .int .u16 x.g4, .int .u16 x.g5, .int .u16 x.g6, .int .u16 x.g7, .int .i64 x.p] 36)) := (Below.refl _ w).alloc (Nat.le_refl _) _
  have hA1 : A10 (w.alloc (Obj.cells #[.int .i8 x.f, .int .u16 x.g0, .int .u16 x.g1, .int .u16 x.g2, .int .u16 x.g3, .int .u16 x.g4, .int .u16 x.g5, .int .u16 x.g6, .int .u16 x.g7, .int .i64 x.p] 36)) w.heap.size x.f x.g0 x.g1 x.g2 x.g3 x.g4 x.g5 x.g6 x.g7 x.p := a10_new _ _ _ _ _ _ _ _ _ _ _ _
  have hs1 : (w.alloc (Obj.cells #[.int .i8 x.f, .int .u16 x.g0, .int .u16 x.g1, .int .u16 x.g2, .int .u16 x.g3, .int .u16 x.g4, .int .u16 x.g5, .int .u16 x.g6, .int .u16 x.g7, .int .i64 x.p] 36)).heap.size = w.heap.size + 1 := by simp
  obtain ⟨W1, hW1⟩ : ∃ W, w.alloc (Obj.cells #[.int .i8 x.f, .int .u16 x.g0, .int .u16 x.g1, .int .u16 x.g2, .int .u16 x.g3, .int .u16 x.g4, .int .u16 x.g5, .int .u16 x.g6, .int .u16 x.g7, .int .i64 x.p] 36) = W := ⟨_, rfl⟩
  rw [hW1] at hb1 hA1 hs1
  have HW1 := Lib.hid hW1
  have HB1 := Lib.hid hb1
  have HA1 := Lib.hid hA1
  clear hW1 hb1 hA1
  go_enter Tryd.func4, Tryd.ntmps4
  by_cases hs : 2000 < s.size
  · have HW := Lib.hid (wakes_any W1 (HE.out.below HB1.out))
    go_wp2_with fail
    rw [HW1.out]
    with_reducible refine HW.out.mono ?_
    rintro e w2 ⟨rfl, hb⟩
    go_wp2_with fail
    go_ret
    exact ⟨rfl, HB1.out.trans (hb.mono HB1.out.size)⟩
  · have HG := Lib.hid (great_any l.length a c W1)
    by_cases hg : 60 < l.length
    · rw [decide_eq_true hg] at HG
      have HW := Lib.hid (wakes_any W1 (HE.out.below HB1.out))
      go_wp2_with fail
      rw [HW1.out]
      with_reducible refine HG.out.mono ?_
      rintro e w1 ⟨rfl, rfl⟩
      go_wp2_with fail
      with_reducible refine HW.out.mono ?_
      rintro e w2 ⟨rfl, hb⟩
      go_wp2_with fail
      go_ret
      exact ⟨rfl, HB1.out.trans (hb.mono HB1.out.size)⟩
    · rw [decide_eq_false hg] at HG
      obtain ⟨d0, d1, d2, d3, d4, d5, d6, d7, d8, d9, dz⟩ := HA1.out
      go_wp2_with fail
      rw [HW1.out]
      with_reducible refine HG.out.mono ?_
      rintro e w1 ⟨rfl, rfl⟩
      cases hm : mayP x with
      | false =>
        have HT := Lib.hid (text_no x w1 hm)
        simp only [Ad.v, Ad.enc] at HT
        go_wp2_with fail
        with_reducible refine HT.out.mono ?_
        rintro e w2 ⟨rfl, hb2⟩
        have HBV := Lib.hid (HB1.out.trans (hb2.mono HB1.out.size))
        clear d0 d1 d2 d3 d4 d5 d6 d7 d8 d9 dz hb2 HT
        have HPs := parse_any s w2 (by omega) (HE.out.below HBV.out)
        cases hp : P.parseP s with
        | none =>
          rw [hp] at HPs
          simp only [P.parseV, Option.getD_none, Option.isSome_none, Ad.zero, Ad.v, Ad.enc] at HPs
          have HPs := Lib.hid HPs
          clear hp
          go_wp2_with fail
          with_reducible refine HPs.out.mono ?_
          rintro e w6 ⟨rfl, hb6⟩
          have hbz : Below w.heap.size w (w6.alloc (Obj.cells #[.int .i8 0, .int .u16 0, .int .u16 0, .int .u16 0, .int .u16 0, .int .u16 0, .int .u16 0, .int .u16 0, .int .u16 0, .int .i64 0] 36)) := (HBV.out.trans (hb6.mono HBV.out.size)).alloc (HBV.out.trans (hb6.mono HBV.out.size)).size _
          clear HBV hb6
          have HBV := Lib.hid hbz
          clear hbz
          have HRow := row_any l a c (w6.alloc (Obj.cells #[.int .i8 0, .int .u16 0, .int .u16 0, .int .u16 0, .int .u16 0, .int .u16 0, .int .u16 0, .int .u16 0, .int .u16 0, .int .i64 0] 36)) (by omega) (HA.out.below HBV.out) HL.out (HE.out.below HBV.out)
          cases hr : P.rowP l with
          | none =>
            rw [hr] at HRow
            simp only [P.rowV, Option.getD_none, Option.isSome_none] at HRow
            have HR := Lib.hid HRow
            clear HRow
            go_wp2_with fail
            with_reducible refine HR.out.mono ?_
            rintro e v1 ⟨rfl, hv1⟩
            have HV1 := Lib.hid (HBV.out.trans (hv1.mono HBV.out.size))
            have HW := Lib.hid (wakes_any v1 (HE.out.below HV1.out))
            by_cases h16 : 16 < l.length
            · clear hr
              go_wp2_with fail
              with_reducible refine HW.out.mono ?_
              rintro e v2 ⟨rfl, hv2⟩
              go_wp2_with fail
              go_ret
              exact ⟨rfl, HV1.out.trans (hv2.mono HV1.out.size)⟩
            · have HM := Lib.hid (may_in l a c v1 (by omega) (HA.out.below HV1.out))
              rw [P.rowP_not l hr (by omega)] at HM
              clear hr
              go_wp2_with fail
              with_reducible refine HM.out.mono ?_
              rintro e v2 ⟨rfl, hv2⟩
              have HV2 := Lib.hid (HV1.out.trans (hv2.mono HV1.out.size))
              have HW := Lib.hid (wakes_any v2 (HE.out.below HV2.out))
              go_wp2_with fail
              with_reducible refine HW.out.mono ?_
              rintro e v3 ⟨rfl, hv3⟩
              go_wp2_with fail
              go_ret
              exact ⟨rfl, HV2.out.trans (hv3.mono HV2.out.size)⟩
          | some r =>
            rw [hr] at HRow
            simp only [P.rowV, Option.getD_some, Option.isSome_some, if_true] at HRow
            have HR := Lib.hid HRow
            obtain ⟨hl16, hlen, hread⟩ := P.rowP_read l r hr HL.out
            have hrl : (⟨r.toArray⟩ : ByteArray).data.toList = r := by simp
            have HRd := Lib.hid hread
            have HRl := Lib.hid hrl
            have hsz : (⟨r.toArray⟩ : ByteArray).size ≤ 4000 := by rw [size_of_list]; omega
            clear HRow hr hread hrl
            generalize (⟨r.toArray⟩ : ByteArray) = R at *
            go_wp2_with fail
            with_reducible refine HR.out.mono ?_
            rintro e v1 ⟨rfl, hv1⟩
            have HV1 := Lib.hid (HBV.out.trans (hv1.mono HBV.out.size))
            have HQ := read_any R v1 hsz (HE.out.below HV1.out)
            rw [HRl.out, HRd.out] at HQ
            simp only [P.readV, Option.getD_some, Option.isSome_some, if_true] at HQ
            have HQ2 := Lib.hid HQ
            clear HQ hv1
            go_wp2_with fail
            with_reducible refine HQ2.out.mono ?_
            rintro e v2 ⟨m, rfl, hm2, hv2⟩
            obtain ⟨ma, mc, rfl, hrow, _⟩ := own_row hm2
            have HV2 := Lib.hid (HV1.out.trans (hv2.mono HV1.out.size))
            have HS := Lib.hid (same_eq l ma a mc c v2 (by omega) hrow (HA.out.below HV2.out))
            clear hm2 hrow hv2
            go_wp2_with fail
            with_reducible refine HS.out.mono ?_
            rintro e v3 ⟨rfl, hv3⟩
            have HV3 := Lib.hid (HV2.out.trans (hv3.mono HV2.out.size))
            have HW := Lib.hid (wakes_any v3 (HE.out.below HV3.out))
            go_wp2_with fail
            with_reducible refine HW.out.mono ?_
            rintro e v4 ⟨rfl, hv4⟩
            go_wp2_with fail
            go_ret
            exact ⟨rfl, HV3.out.trans (hv4.mono HV3.out.size)⟩
        | some y =>
          rw [hp] at HPs
          obtain ⟨hym, hyo⟩ := P.parse_may s y hp
          simp only [P.parseV, Option.getD_some, Option.isSome_some, Ad.v, Ad.enc, if_true] at HPs
          have HPs := Lib.hid HPs
          have HYT := Lib.hid (fun W h => text_yes y W hym hyo h)
          have HTL := Lib.hid (P.text_len y hyo hym)
          have HPT := Lib.hid (P.parse_text y hym hyo)
          simp only [Ad.v, Ad.enc] at HYT
          clear hp hym hyo
          go_wp2_with fail
          with_reducible refine HPs.out.mono ?_
          rintro e w6 ⟨rfl, hb6⟩
          have hb7 : Below w.heap.size w (w6.alloc (Obj.cells #[.int .i8 y.f, .int .u16 y.g0, .int .u16 y.g1, .int .u16 y.g2, .int .u16 y.g3, .int .u16 y.g4, .int .u16 y.g5, .int .u16 y.g6, .int .u16 y.g7, .int .i64 y.p] 36)) := (HBV.out.trans (hb6.mono HBV.out.size)).alloc (HBV.out.trans (hb6.mono HBV.out.size)).size _
          have hA7 : A10 (w6.alloc (Obj.cells #[.int .i8 y.f, .int .u16 y.g0, .int .u16 y.g1, .int .u16 y.g2, .int .u16 y.g3, .int .u16 y.g4, .int .u16 y.g5, .int .u16 y.g6, .int .u16 y.g7, .int .i64 y.p] 36)) w6.heap.size y.f y.g0 y.g1 y.g2 y.g3 y.g4 y.g5 y.g6 y.g7 y.p := a10_new _ _ _ _ _ _ _ _ _ _ _ _
          have hs7 : (w6.alloc (Obj.cells #[.int .i8 y.f, .int .u16 y.g0, .int .u16 y.g1, .int .u16 y.g2, .int .u16 y.g3, .int .u16 y.g4, .int .u16 y.g5, .int .u16 y.g6, .int .u16 y.g7, .int .i64 y.p] 36)).heap.size = w6.heap.size + 1 := by simp
          obtain ⟨W7, hW7⟩ : ∃ W, w6.alloc (Obj.cells #[.int .i8 y.f, .int .u16 y.g0, .int .u16 y.g1, .int .u16 y.g2, .int .u16 y.g3, .int .u16 y.g4, .int .u16 y.g5, .int .u16 y.g6, .int .u16 y.g7, .int .i64 y.p] 36) = W := ⟨_, rfl⟩
          rw [hW7] at hb7 hA7 hs7
          have HW7 := Lib.hid hW7
          have HB7 := Lib.hid hb7
          have HY := Lib.hid (HYT.out W7 (HE.out.below HB7.out))
          clear HBV hb6 hb7 hW7
          go_wp2_with fail
          rw [HW7.out]
          have HSz := Lib.hid (size_of_list (P.textP y))
          generalize (⟨(P.textP y).toArray⟩ : ByteArray) = S at *
          with_reducible refine HY.out.mono ?_
          rintro e w8 ⟨rfl, hb8⟩
          have hA8 := hA7.below hb8 (by omega)
          have hs8 := hb8.size
          have HB8 := Lib.hid (HB7.out.trans (hb8.mono HB7.out.size))
          have HQ := parse_any S w8 (by rw [HSz.out]; have := HTL.out; omega) (HE.out.below HB8.out)
          rw [HPT.out] at HQ
          simp only [P.parseV, Option.getD_some, Option.isSome_some, Ad.v, Ad.enc, if_true] at HQ
          have HQ2 := Lib.hid HQ
          clear HQ hA7 hb8
          go_wp2_with fail
          with_reducible refine HQ2.out.mono ?_
          rintro e w9 ⟨rfl, hb9⟩
          have hA9 := hA8.below hb9 (by omega)
          have hs9 := hb9.size
          have HB9 := Lib.hid (HB8.out.trans (hb9.mono HB8.out.size))
          have hlt9 : w6.heap.size < w9.heap.size := by omega
          have hbz : Below w.heap.size w (w9.alloc (Obj.cells #[.int .i8 y.f, .int .u16 y.g0, .int .u16 y.g1, .int .u16 y.g2, .int .u16 y.g3, .int .u16 y.g4, .int .u16 y.g5, .int .u16 y.g6, .int .u16 y.g7, .int .i64 y.p] 36)) := HB9.out.alloc HB9.out.size _
          obtain ⟨d0, d1, d2, d3, d4, d5, d6, d7, d8, d9, dz⟩ := hA9
          have hnq := HNQ.out y
          have hgd := HGD.out
          have HBV := Lib.hid hbz
          clear hA8 hb9 hbz HQ2 HY HYT HPs HPT HTL
          have HRow := row_any l a c (w9.alloc (Obj.cells #[.int .i8 y.f, .int .u16 y.g0, .int .u16 y.g1, .int .u16 y.g2, .int .u16 y.g3, .int .u16 y.g4, .int .u16 y.g5, .int .u16 y.g6, .int .u16 y.g7, .int .i64 y.p] 36)) (by omega) (HA.out.below HBV.out) HL.out (HE.out.below HBV.out)
          cases hr : P.rowP l with
          | none =>
            rw [hr] at HRow
            simp only [P.rowV, Option.getD_none, Option.isSome_none] at HRow
            have HR := Lib.hid HRow
            clear HRow
            go_wp2_with fail
            with_reducible refine HR.out.mono ?_
            rintro e v1 ⟨rfl, hv1⟩
            have HV1 := Lib.hid (HBV.out.trans (hv1.mono HBV.out.size))
            have HW := Lib.hid (wakes_any v1 (HE.out.below HV1.out))
            by_cases h16 : 16 < l.length
            · clear hr
              go_wp2_with fail
              with_reducible refine HW.out.mono ?_
              rintro e v2 ⟨rfl, hv2⟩
              go_wp2_with fail
              go_ret
              exact ⟨rfl, HV1.out.trans (hv2.mono HV1.out.size)⟩
            · have HM := Lib.hid (may_in l a c v1 (by omega) (HA.out.below HV1.out))
              rw [P.rowP_not l hr (by omega)] at HM
              clear hr
              go_wp2_with fail
              with_reducible refine HM.out.mono ?_
              rintro e v2 ⟨rfl, hv2⟩
              have HV2 := Lib.hid (HV1.out.trans (hv2.mono HV1.out.size))
              have HW := Lib.hid (wakes_any v2 (HE.out.below HV2.out))
              go_wp2_with fail
              with_reducible refine HW.out.mono ?_
              rintro e v3 ⟨rfl, hv3⟩
              go_wp2_with fail
              go_ret
              exact ⟨rfl, HV2.out.trans (hv3.mono HV2.out.size)⟩
          | some r =>
            rw [hr] at HRow
            simp only [P.rowV, Option.getD_some, Option.isSome_some, if_true] at HRow
            have HR := Lib.hid HRow
            obtain ⟨hl16, hlen, hread⟩ := P.rowP_read l r hr HL.out
            have hrl : (⟨r.toArray⟩ : ByteArray).data.toList = r := by simp
            have HRd := Lib.hid hread
            have HRl := Lib.hid hrl
            have hsz : (⟨r.toArray⟩ : ByteArray).size ≤ 4000 := by rw [size_of_list]; omega
            clear HRow hr hread hrl
            generalize (⟨r.toArray⟩ : ByteArray) = R at *
            go_wp2_with fail
            with_reducible refine HR.out.mono ?_
            rintro e v1 ⟨rfl, hv1⟩
            have HV1 := Lib.hid (HBV.out.trans (hv1.mono HBV.out.size))
            have HQ := read_any R v1 hsz (HE.out.below HV1.out)
            rw [HRl.out, HRd.out] at HQ
            simp only [P.readV, Option.getD_some, Option.isSome_some, if_true] at HQ
            have HQ2 := Lib.hid HQ
            clear HQ hv1
            go_wp2_with fail
            with_reducible refine HQ2.out.mono ?_
            rintro e v2 ⟨m, rfl, hm2, hv2⟩
            obtain ⟨ma, mc, rfl, hrow, _⟩ := own_row hm2
            have HV2 := Lib.hid (HV1.out.trans (hv2.mono HV1.out.size))
            have HS := Lib.hid (same_eq l ma a mc c v2 (by omega) hrow (HA.out.below HV2.out))
            clear hm2 hrow hv2
            go_wp2_with fail
            with_reducible refine HS.out.mono ?_
            rintro e v3 ⟨rfl, hv3⟩
            have HV3 := Lib.hid (HV2.out.trans (hv3.mono HV2.out.size))
            have HW := Lib.hid (wakes_any v3 (HE.out.below HV3.out))
            go_wp2_with fail
            with_reducible refine HW.out.mono ?_
            rintro e v4 ⟨rfl, hv4⟩
            go_wp2_with fail
            go_ret
            exact ⟨rfl, HV3.out.trans (hv4.mono HV3.out.size)⟩
      | true =>
        have HT := Lib.hid (text_yes x w1 hm HX.out (HE.out.below HB1.out))
        have HTL := Lib.hid (P.text_len x HX.out hm)
        have HPT := Lib.hid (P.parse_text x hm HX.out)
        simp only [Ad.v, Ad.enc] at HT
        go_wp2_with fail
        with_reducible refine HT.out.mono ?_
        rintro e w2 ⟨rfl, hb2⟩
        have hA2 := HA1.out.below hb2 (by omega)
        have hs2 := hb2.size
        have HB2 := Lib.hid (HB1.out.trans (hb2.mono HB1.out.size))
        have HQ := parse_any ⟨(P.textP x).toArray⟩ w2 (by rw [size_of_list]; have := HTL.out; omega) (HE.out.below HB2.out)
        rw [HPT.out] at HQ
        simp only [P.parseV, Option.getD_some, Option.isSome_some, Ad.v, Ad.enc, if_true] at HQ
        generalize (⟨(P.textP x).toArray⟩ : ByteArray) = S at *
        clear d0 d1 d2 d3 d4 d5 d6 d7 d8 d9 dz hb2
        go_wp2_with fail
        with_reducible refine HQ.mono ?_
        clear HQ
        rintro e w3 ⟨rfl, hb3⟩
        have hA3 := hA2.below hb3 (by omega)
        have hs3 := hb3.size
        have HB3 := Lib.hid (HB2.out.trans (hb3.mono HB2.out.size))
        clear hA2 hb3
        obtain ⟨d0, d1, d2, d3, d4, d5, d6, d7, d8, d9, dz⟩ := hA3
        have hlt3 : w.heap.size < w3.heap.size := by omega
        have hnq := HNQ.out x
        have hgd := HGD.out
        go_wp2_with fail
        have HC := may_one x.f x.g0 x.g1 x.g2 x.g3 x.g4 x.g5 x.g6 x.g7 x.p (w3.alloc (Obj.cells #[.int .i8 x.f, .int .u16 x.g0, .int .u16 x.g1, .int .u16 x.g2, .int .u16 x.g3, .int .u16 x.g4, .int .u16 x.g5, .int .u16 x.g6, .int .u16 x.g7, .int .i64 x.p] 36)) (w3.heap.size + 1) (by simp)
        rw [show mayP ⟨x.f, x.g0, x.g1, x.g2, x.g3, x.g4, x.g5, x.g6, x.g7, x.p⟩ = true from hm] at HC
        with_reducible refine HC.mono ?_
        clear HC
        rintro e w5 ⟨rfl, hb5⟩
        have hb34 : Below w.heap.size w ((w3.alloc (Obj.cells #[.int .i8 x.f, .int .u16 x.g0, .int .u16 x.g1, .int .u16 x.g2, .int .u16 x.g3, .int .u16 x.g4, .int .u16 x.g5, .int .u16 x.g6, .int .u16 x.g7, .int .i64 x.p] 36)).alloc (Obj.cells #[.int .i8 x.f, .int .u16 x.g0, .int .u16 x.g1, .int .u16 x.g2, .int .u16 x.g3, .int .u16 x.g4, .int .u16 x.g5, .int .u16 x.g6, .int .u16 x.g7, .int .i64 x.p] 36)) := (HB3.out.alloc HB3.out.size _).alloc (HB3.out.alloc HB3.out.size _).size _
        have HBV := Lib.hid (hb34.trans (hb5.mono hb34.size))
        clear d0 d1 d2 d3 d4 d5 d6 d7 d8 d9 dz hb5 hb34 hm HT HTL HPT
        have HPs := parse_any s w5 (by omega) (HE.out.below HBV.out)
        cases hp : P.parseP s with
        | none =>
          rw [hp] at HPs
          simp only [P.parseV, Option.getD_none, Option.isSome_none, Ad.zero, Ad.v, Ad.enc] at HPs
          have HPs := Lib.hid HPs
          clear hp
          go_wp2_with fail
          with_reducible refine HPs.out.mono ?_
          rintro e w6 ⟨rfl, hb6⟩
          have hbz : Below w.heap.size w (w6.alloc (Obj.cells #[.int .i8 0, .int .u16 0, .int .u16 0, .int .u16 0, .int .u16 0, .int .u16 0, .int .u16 0, .int .u16 0, .int .u16 0, .int .i64 0] 36)) := (HBV.out.trans (hb6.mono HBV.out.size)).alloc (HBV.out.trans (hb6.mono HBV.out.size)).size _
          clear HBV hb6
          have HBV := Lib.hid hbz
          clear hbz
          have HRow := row_any l a c (w6.alloc (Obj.cells #[.int .i8 0, .int .u16 0, .int .u16 0, .int .u16 0, .int .u16 0, .int .u16 0, .int .u16 0, .int .u16 0, .int .u16 0, .int .i64 0] 36)) (by omega) (HA.out.below HBV.out) HL.out (HE.out.below HBV.out)
          cases hr : P.rowP l with
          | none =>
            rw [hr] at HRow
            simp only [P.rowV, Option.getD_none, Option.isSome_none] at HRow
            have HR := Lib.hid HRow
            clear HRow
            go_wp2_with fail
            with_reducible refine HR.out.mono ?_
            rintro e v1 ⟨rfl, hv1⟩
            have HV1 := Lib.hid (HBV.out.trans (hv1.mono HBV.out.size))
            have HW := Lib.hid (wakes_any v1 (HE.out.below HV1.out))
            by_cases h16 : 16 < l.length
            · clear hr
              go_wp2_with fail
              with_reducible refine HW.out.mono ?_
              rintro e v2 ⟨rfl, hv2⟩
              go_wp2_with fail
              go_ret
              exact ⟨rfl, HV1.out.trans (hv2.mono HV1.out.size)⟩
            · have HM := Lib.hid (may_in l a c v1 (by omega) (HA.out.below HV1.out))
              rw [P.rowP_not l hr (by omega)] at HM
              clear hr
              go_wp2_with fail
              with_reducible refine HM.out.mono ?_
              rintro e v2 ⟨rfl, hv2⟩
              have HV2 := Lib.hid (HV1.out.trans (hv2.mono HV1.out.size))
              have HW := Lib.hid (wakes_any v2 (HE.out.below HV2.out))
              go_wp2_with fail
              with_reducible refine HW.out.mono ?_
              rintro e v3 ⟨rfl, hv3⟩
              go_wp2_with fail
              go_ret
              exact ⟨rfl, HV2.out.trans (hv3.mono HV2.out.size)⟩
          | some r =>
            rw [hr] at HRow
            simp only [P.rowV, Option.getD_some, Option.isSome_some, if_true] at HRow
            have HR := Lib.hid HRow
            obtain ⟨hl16, hlen, hread⟩ := P.rowP_read l r hr HL.out
            have hrl : (⟨r.toArray⟩ : ByteArray).data.toList = r := by simp
            have HRd := Lib.hid hread
            have HRl := Lib.hid hrl
            have hsz : (⟨r.toArray⟩ : ByteArray).size ≤ 4000 := by rw [size_of_list]; omega
            clear HRow hr hread hrl
            generalize (⟨r.toArray⟩ : ByteArray) = R at *
            go_wp2_with fail
            with_reducible refine HR.out.mono ?_
            rintro e v1 ⟨rfl, hv1⟩
            have HV1 := Lib.hid (HBV.out.trans (hv1.mono HBV.out.size))
            have HQ := read_any R v1 hsz (HE.out.below HV1.out)
            rw [HRl.out, HRd.out] at HQ
            simp only [P.readV, Option.getD_some, Option.isSome_some, if_true] at HQ
            have HQ2 := Lib.hid HQ
            clear HQ hv1
            go_wp2_with fail
            with_reducible refine HQ2.out.mono ?_
            rintro e v2 ⟨m, rfl, hm2, hv2⟩
            obtain ⟨ma, mc, rfl, hrow, _⟩ := own_row hm2
            have HV2 := Lib.hid (HV1.out.trans (hv2.mono HV1.out.size))
            have HS := Lib.hid (same_eq l ma a mc c v2 (by omega) hrow (HA.out.below HV2.out))
            clear hm2 hrow hv2
            go_wp2_with fail
            with_reducible refine HS.out.mono ?_
            rintro e v3 ⟨rfl, hv3⟩
            have HV3 := Lib.hid (HV2.out.trans (hv3.mono HV2.out.size))
            have HW := Lib.hid (wakes_any v3 (HE.out.below HV3.out))
            go_wp2_with fail
            with_reducible refine HW.out.mono ?_
            rintro e v4 ⟨rfl, hv4⟩
            go_wp2_with fail
            go_ret
            exact ⟨rfl, HV3.out.trans (hv4.mono HV3.out.size)⟩
        | some y =>
          rw [hp] at HPs
          obtain ⟨hym, hyo⟩ := P.parse_may s y hp
          simp only [P.parseV, Option.getD_some, Option.isSome_some, Ad.v, Ad.enc, if_true] at HPs
          have HPs := Lib.hid HPs
          have HYT := Lib.hid (fun W h => text_yes y W hym hyo h)
          have HTL := Lib.hid (P.text_len y hyo hym)
          have HPT := Lib.hid (P.parse_text y hym hyo)
          simp only [Ad.v, Ad.enc] at HYT
          clear hp hym hyo
          go_wp2_with fail
          with_reducible refine HPs.out.mono ?_
          rintro e w6 ⟨rfl, hb6⟩
          have hb7 : Below w.heap.size w (w6.alloc (Obj.cells #[.int .i8 y.f, .int .u16 y.g0, .int .u16 y.g1, .int .u16 y.g2, .int .u16 y.g3, .int .u16 y.g4, .int .u16 y.g5, .int .u16 y.g6, .int .u16 y.g7, .int .i64 y.p] 36)) := (HBV.out.trans (hb6.mono HBV.out.size)).alloc (HBV.out.trans (hb6.mono HBV.out.size)).size _
          have hA7 : A10 (w6.alloc (Obj.cells #[.int .i8 y.f, .int .u16 y.g0, .int .u16 y.g1, .int .u16 y.g2, .int .u16 y.g3, .int .u16 y.g4, .int .u16 y.g5, .int .u16 y.g6, .int .u16 y.g7, .int .i64 y.p] 36)) w6.heap.size y.f y.g0 y.g1 y.g2 y.g3 y.g4 y.g5 y.g6 y.g7 y.p := a10_new _ _ _ _ _ _ _ _ _ _ _ _
          have hs7 : (w6.alloc (Obj.cells #[.int .i8 y.f, .int .u16 y.g0, .int .u16 y.g1, .int .u16 y.g2, .int .u16 y.g3, .int .u16 y.g4, .int .u16 y.g5, .int .u16 y.g6, .int .u16 y.g7, .int .i64 y.p] 36)).heap.size = w6.heap.size + 1 := by simp
          obtain ⟨W7, hW7⟩ : ∃ W, w6.alloc (Obj.cells #[.int .i8 y.f, .int .u16 y.g0, .int .u16 y.g1, .int .u16 y.g2, .int .u16 y.g3, .int .u16 y.g4, .int .u16 y.g5, .int .u16 y.g6, .int .u16 y.g7, .int .i64 y.p] 36) = W := ⟨_, rfl⟩
          rw [hW7] at hb7 hA7 hs7
          have HW7 := Lib.hid hW7
          have HB7 := Lib.hid hb7
          have HY := Lib.hid (HYT.out W7 (HE.out.below HB7.out))
          clear HBV hb6 hb7 hW7
          go_wp2_with fail
          rw [HW7.out]
          have HSz := Lib.hid (size_of_list (P.textP y))
          generalize (⟨(P.textP y).toArray⟩ : ByteArray) = S at *
          with_reducible refine HY.out.mono ?_
          rintro e w8 ⟨rfl, hb8⟩
          have hA8 := hA7.below hb8 (by omega)
          have hs8 := hb8.size
          have HB8 := Lib.hid (HB7.out.trans (hb8.mono HB7.out.size))
          have HQ := parse_any S w8 (by rw [HSz.out]; have := HTL.out; omega) (HE.out.below HB8.out)
          rw [HPT.out] at HQ
          simp only [P.parseV, Option.getD_some, Option.isSome_some, Ad.v, Ad.enc, if_true] at HQ
          have HQ2 := Lib.hid HQ
          clear HQ hA7 hb8
          go_wp2_with fail
          with_reducible refine HQ2.out.mono ?_
          rintro e w9 ⟨rfl, hb9⟩
          have hA9 := hA8.below hb9 (by omega)
          have hs9 := hb9.size
          have HB9 := Lib.hid (HB8.out.trans (hb9.mono HB8.out.size))
          have hlt9 : w6.heap.size < w9.heap.size := by omega
          have hbz : Below w.heap.size w (w9.alloc (Obj.cells #[.int .i8 y.f, .int .u16 y.g0, .int .u16 y.g1, .int .u16 y.g2, .int .u16 y.g3, .int .u16 y.g4, .int .u16 y.g5, .int .u16 y.g6, .int .u16 y.g7, .int .i64 y.p] 36)) := HB9.out.alloc HB9.out.size _
          obtain ⟨d0, d1, d2, d3, d4, d5, d6, d7, d8, d9, dz⟩ := hA9
          have hnq := HNQ.out y
          have hgd := HGD.out
          have HBV := Lib.hid hbz
          clear hA8 hb9 hbz HQ2 HY HYT HPs HPT HTL
          have HRow := row_any l a c (w9.alloc (Obj.cells #[.int .i8 y.f, .int .u16 y.g0, .int .u16 y.g1, .int .u16 y.g2, .int .u16 y.g3, .int .u16 y.g4, .int .u16 y.g5, .int .u16 y.g6, .int .u16 y.g7, .int .i64 y.p] 36)) (by omega) (HA.out.below HBV.out) HL.out (HE.out.below HBV.out)
          cases hr : P.rowP l with
          | none =>
            rw [hr] at HRow
            simp only [P.rowV, Option.getD_none, Option.isSome_none] at HRow
            have HR := Lib.hid HRow
            clear HRow
            go_wp2_with fail
            with_reducible refine HR.out.mono ?_
            rintro e v1 ⟨rfl, hv1⟩
            have HV1 := Lib.hid (HBV.out.trans (hv1.mono HBV.out.size))
            have HW := Lib.hid (wakes_any v1 (HE.out.below HV1.out))
            by_cases h16 : 16 < l.length
            · clear hr
              go_wp2_with fail
              with_reducible refine HW.out.mono ?_
              rintro e v2 ⟨rfl, hv2⟩
              go_wp2_with fail
              go_ret
              exact ⟨rfl, HV1.out.trans (hv2.mono HV1.out.size)⟩
            · have HM := Lib.hid (may_in l a c v1 (by omega) (HA.out.below HV1.out))
              rw [P.rowP_not l hr (by omega)] at HM
              clear hr
              go_wp2_with fail
              with_reducible refine HM.out.mono ?_
              rintro e v2 ⟨rfl, hv2⟩
              have HV2 := Lib.hid (HV1.out.trans (hv2.mono HV1.out.size))
              have HW := Lib.hid (wakes_any v2 (HE.out.below HV2.out))
              go_wp2_with fail
              with_reducible refine HW.out.mono ?_
              rintro e v3 ⟨rfl, hv3⟩
              go_wp2_with fail
              go_ret
              exact ⟨rfl, HV2.out.trans (hv3.mono HV2.out.size)⟩
          | some r =>
            rw [hr] at HRow
            simp only [P.rowV, Option.getD_some, Option.isSome_some, if_true] at HRow
            have HR := Lib.hid HRow
            obtain ⟨hl16, hlen, hread⟩ := P.rowP_read l r hr HL.out
            have hrl : (⟨r.toArray⟩ : ByteArray).data.toList = r := by simp
            have HRd := Lib.hid hread
            have HRl := Lib.hid hrl
            have hsz : (⟨r.toArray⟩ : ByteArray).size ≤ 4000 := by rw [size_of_list]; omega
            clear HRow hr hread hrl
            generalize (⟨r.toArray⟩ : ByteArray) = R at *
            go_wp2_with fail
            with_reducible refine HR.out.mono ?_
            rintro e v1 ⟨rfl, hv1⟩
            have HV1 := Lib.hid (HBV.out.trans (hv1.mono HBV.out.size))
            have HQ := read_any R v1 hsz (HE.out.below HV1.out)
            rw [HRl.out, HRd.out] at HQ
            simp only [P.readV, Option.getD_some, Option.isSome_some, if_true] at HQ
            have HQ2 := Lib.hid HQ
            clear HQ hv1
            go_wp2_with fail
            with_reducible refine HQ2.out.mono ?_
            rintro e v2 ⟨m, rfl, hm2, hv2⟩
            obtain ⟨ma, mc, rfl, hrow, _⟩ := own_row hm2
            have HV2 := Lib.hid (HV1.out.trans (hv2.mono HV1.out.size))
            have HS := Lib.hid (same_eq l ma a mc c v2 (by omega) hrow (HA.out.below HV2.out))
            clear hm2 hrow hv2
            go_wp2_with fail
            with_reducible refine HS.out.mono ?_
            rintro e v3 ⟨rfl, hv3⟩
            have HV3 := Lib.hid (HV2.out.trans (hv3.mono HV2.out.size))
            have HW := Lib.hid (wakes_any v3 (HE.out.below HV3.out))
            go_wp2_with fail
            with_reducible refine HW.out.mono ?_
            rintro e v4 ⟨rfl, hv4⟩
            go_wp2_with fail
            go_ret
            exact ⟨rfl, HV3.out.trans (hv4.mono HV3.out.size)⟩
end Go.Proofs.YtbejnnkdgcelmaaDoor
