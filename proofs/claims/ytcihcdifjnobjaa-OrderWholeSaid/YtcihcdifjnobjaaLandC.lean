/- The landed order: the list, over what is asked of Turns. -/
import Derived.Test.YtcihcdifjnobjaaLandB
set_option linter.unusedSimpArgs false
set_option linter.unusedVariables false
namespace Go.Proofs.Ytcihcdifjnobjaa
open Go.RowKit Go.Maps Go.Proofs.Ytcihcdifjnobjaa.Kind

set_option maxHeartbeats 8000000 in
set_option maxRecDepth 1000000 in
theorem list_land (hTu : TurnsSpec) : ListSpec := by
  intro l bad s v c d L w hL hl hbl hR hV
  obtain ⟨hL, hkl, hkb⟩ := hL
  have HTu := Lib.hid (fun l s c L w h h1 h2 => hTu l s c L w h h1 h2)
  have HK0 := Lib.hid (keys_any bad v d w (by omega) hkb hV)
  have HL := Lib.hid hL
  have HLw := Lib.hid law_ad
  have HKl := Lib.hid hkl
  have HR := Lib.hid hR
  obtain ⟨O, hO⟩ : ∃ O, O = Turn.once l := ⟨_, rfl⟩
  have hOl : O.length ≤ 400 := by have := Turn.once_len l; rw [hO]; omega
  have HOe := Lib.hid hO
  have HKO := Lib.hid (okL_once hO hkl)
  clear hR hV hL hkl hkb hO hTu
  go_enter Try.func16, Try.ntmps16
  go_wp2_with fail
  with_reducible refine HK0.out.mono ?_
  rintro e wk ⟨D, n, rfl, hD, hset, hbk⟩
  have HF0 := Lib.hid (once_spec l s c O wk ⟨HOe.out, HKl.out⟩ hl (HR.out.below hbk))
  have HBk := Lib.hid hbk
  have HD := Lib.hid hD
  have HSet := Lib.hid hset
  clear hD hset hbk HK0 HR
  go_wp2_with fail
  with_reducible refine HF0.out.mono ?_
  rintro e wb ⟨a0, c0, rfl, h0, hb0⟩
  have HR := Lib.hid h0
  have HB0 := Lib.hid (HBk.out.trans (hb0.mono HBk.out.size))
  have HDb := Lib.hid (show wb.ownsMap Try.prog 27 (unitElem (H := Unit)) w.heap.size n D from map_below HD.out hb0)
  have hmb := HDb.out.lt
  clear h0 hb0 HF0 HD HBk
  go_wp2_with fail
  go_loopw [6, 7, 17] (fun g r i wr => ∃ (k m1 m2 : Nat) (a1 a2 : Option Addr) (c1 c2 : Nat), g = .slice a1 m1 c1 ∧ r = .slice a2 m2 c2 ∧ i = .int .i64 k ∧ k ≤ O.length ∧ m1 ≤ k ∧ m2 ≤ k ∧ Hid (m1 = ((O.take k).filter (fun z => decide (z ∉ bad))).length) ∧ Hid (m2 = ((O.take k).filter (fun z => decide (z ∈ bad))).length) ∧ Hid (Two wr wb.heap.size a1 c1 ((O.take k).filter (fun z => decide (z ∉ bad))) a2 c2 ((O.take k).filter (fun z => decide (z ∈ bad)))) ∧ Hid (Below wb.heap.size wb wr)) (fun _ _ i _ => O.length - (intOf i).toNat)
  case atStart => exact ⟨0, 0, 0, none, none, 0, 0, rfl, rfl, rfl, by omega, by omega, by omega, Lib.hid rfl, Lib.hid rfl, Lib.hid ⟨loose_nil _ _, loose_nil _ _, fun h => by omega⟩, Lib.hid (Below.refl _ _)⟩
  case round =>
    obtain ⟨k, m1, m2, a1, a2, c1, c2, rfl, rfl, rfl, hk, hk1, hk2, hm1, hm2, hT, hB⟩ := hrel
    have HM1 := Lib.hid hm1.out
    have HM2 := Lib.hid hm2.out
    have HT := Lib.hid hT.out
    have HB := Lib.hid hB.out
    have hsz := HB.out.size
    clear hm1 hm2 hT hB
    by_cases hlt : k < O.length
    · obtain ⟨b, o, rfl, hb, hat⟩ := HR.out.2.2.2 (by omega)
      obtain ⟨x, hx⟩ : ∃ x, O[k]? = some x := ⟨_, List.getElem?_eq_getElem hlt⟩
      obtain ⟨⟨y0, y1, y2, y3, y4⟩, y5, y6, y7, y8, y9⟩ := AK.ten (hat.below HB.out hb) hx
      have hg := part_take (fun z => decide (z ∉ bad)) hx
      have hi := part_take (fun z => decide (z ∈ bad)) hx
      have HOa := Lib.hid (HKO.out x (List.mem_of_getElem? hx))
      have HK := Lib.hid (key_ad HOa.out)
      have HM := Lib.hid (map_below HDb.out HB.out)
      have hhas := HSet.out x HOa.out
      obtain ⟨W2, hW2⟩ : ∃ W2, W2 = ((wr.alloc (.cells #[.int .i8 x.f, .int .u16 x.g0, .int .u16 x.g1, .int .u16 x.g2, .int .u16 x.g3, .int .u16 x.g4, .int .u16 x.g5, .int .u16 x.g6, .int .u16 x.g7, .int .i64 x.p] 27)).alloc (.cells #[] 40)) := ⟨_, rfl⟩
      have hb2 := below2 wr (.cells #[.int .i8 x.f, .int .u16 x.g0, .int .u16 x.g1, .int .u16 x.g2, .int .u16 x.g3, .int .u16 x.g4, .int .u16 x.g5, .int .u16 x.g6, .int .u16 x.g7, .int .i64 x.p] 27) (.cells #[] 40)
      have hlz := laid2 wr (.cells #[.int .i8 x.f, .int .u16 x.g0, .int .u16 x.g1, .int .u16 x.g2, .int .u16 x.g3, .int .u16 x.g4, .int .u16 x.g5, .int .u16 x.g6, .int .u16 x.g7, .int .i64 x.p] 27) (.cells #[] 40)
      rw [← hW2] at hb2 hlz
      obtain ⟨⟨z0, z1, z2, z3, z4, z5, z6, z7, z8, z9⟩, _⟩ := boxes10 hlz.1
      have hsz2 : wb.heap.size ≤ W2.heap.size := Nat.le_trans hsz hb2.size
      have HT2 := Lib.hid (HT.out.below hb2)
      have HB2 := Lib.hid (HB.out.trans (hb2.mono hsz))
      have HB3b := Lib.hid (HB2.out.trans ((below1 W2 (.cells #[.int .i8 x.f, .int .u16 x.g0, .int .u16 x.g1, .int .u16 x.g2, .int .u16 x.g3, .int .u16 x.g4, .int .u16 x.g5, .int .u16 x.g6, .int .u16 x.g7, .int .i64 x.p] 27)).mono hsz2))
      have hki : (k : Int) < (O.length : Int) := by omega
      clear hat hx hb2 hlz
      by_cases hin : x ∈ bad
      · rw [if_neg (by simpa using hin), List.append_nil] at hg
        rw [if_pos (by simpa using hin)] at hi
        rw [decide_eq_true hin] at hhas
        have HN := Lib.hid hg
        have HS := Lib.hid hi
        have HHas := Lib.hid hhas
        clear hg hi hin hhas
        go_upto_region 7 with (first | (at_lookup; refine wpList_lookup_own_unit _ rfl _ _ 39 rfl 27 40 HLw.out Try.underlying39 (zero_unit _) w.heap.size n D rfl (HM.out.alloc _) _ _ rfl HK.out ?_; rw [HHas.out]) | go_in)
        rw [← hW2]
        clear hW2
        go_wp2_with (first | (at_builtin; refine AK.wpList_append_loose rfl _ _ rfl wb.heap.size a2 m2 c2 rfl ((O.take k).filter (fun z => decide (z ∈ bad))) HM2.out (HT2.out.l2.below (below1 _ _)) (some ⟨(W2).heap.size, 0, none⟩) 1 1 rfl [x] rfl (by simp) (rowC_at (K := AK) (W2) 27 [x] _ _ 1 rfl rfl rfl (by simp)) (by rw [← HM2.out]; show m2 + 1 ≤ 4000000; omega) (by simp; omega) ((O.take (k + 1)).filter (fun z => decide (z ∈ bad))) HS.out ?_; intro a3 c3 w3 hO3 hG3 hP3; have HT3 := Lib.hid (((HT2.out.below (below1 W2 (.cells #[.int .i8 x.f, .int .u16 x.g0, .int .u16 x.g1, .int .u16 x.g2, .int .u16 x.g3, .int .u16 x.g4, .int .u16 x.g5, .int .u16 x.g6, .int .u16 x.g7, .int .i64 x.p] 27))).swap.app hO3 hG3 hP3).swap); have HB3 := Lib.hid (two_grown HB3b.out hG3 HB3b.out.size); clear hO3 hG3 hP3) | go_in)
        exact ⟨⟨k + 1, m1, _, a1, a3, c1, c3, rfl, rfl, by go_num, by omega, by omega, part_le _ O (k + 1), Lib.hid (by rw [HN.out]; exact HM1.out), Lib.hid rfl, Lib.hid (by rw [HN.out]; exact HT3.out), HB3⟩, by simp [intOf]; omega⟩
      · rw [if_pos (by simpa using hin)] at hg
        rw [if_neg (by simpa using hin), List.append_nil] at hi
        rw [decide_eq_false hin] at hhas
        have HN := Lib.hid hi
        have HS := Lib.hid hg
        have HHas := Lib.hid hhas
        clear hg hi hin hhas
        go_upto_region 7 with (first | (at_lookup; refine wpList_lookup_own_unit _ rfl _ _ 39 rfl 27 40 HLw.out Try.underlying39 (zero_unit _) w.heap.size n D rfl (HM.out.alloc _) _ _ rfl HK.out ?_; rw [HHas.out]) | go_in)
        rw [← hW2]
        clear hW2
        go_wp2_with (first | (at_builtin; refine AK.wpList_append_loose rfl _ _ rfl wb.heap.size a1 m1 c1 rfl ((O.take k).filter (fun z => decide (z ∉ bad))) HM1.out (HT2.out.l1.below (below1 _ _)) (some ⟨(W2).heap.size, 0, none⟩) 1 1 rfl [x] rfl (by simp) (rowC_at (K := AK) (W2) 27 [x] _ _ 1 rfl rfl rfl (by simp)) (by rw [← HM1.out]; show m1 + 1 ≤ 4000000; omega) (by simp; omega) ((O.take (k + 1)).filter (fun z => decide (z ∉ bad))) HS.out ?_; intro a3 c3 w3 hO3 hG3 hP3; have HT3 := Lib.hid ((HT2.out.below (below1 W2 (.cells #[.int .i8 x.f, .int .u16 x.g0, .int .u16 x.g1, .int .u16 x.g2, .int .u16 x.g3, .int .u16 x.g4, .int .u16 x.g5, .int .u16 x.g6, .int .u16 x.g7, .int .i64 x.p] 27))).app hO3 hG3 hP3); have HB3 := Lib.hid (two_grown HB3b.out hG3 HB3b.out.size); clear hO3 hG3 hP3) | go_in)
        exact ⟨⟨k + 1, _, m2, a3, a2, c3, c2, rfl, rfl, by go_num, by omega, by first | exact part_le _ O (k + 1) | (have h := part_le (fun z => decide (z ∉ bad)) O (k + 1); simpa using h), by omega, Lib.hid (by first | rfl | simp), Lib.hid (by rw [HN.out]; exact HM2.out), Lib.hid (by rw [HN.out]; exact HT3.out), HB3⟩, by simp [intOf]; omega⟩
    · obtain rfl : k = O.length := by omega
      have hm1 := HM1.out
      have hm2 := HM2.out
      have hT := HT.out
      rw [List.take_length] at hm1 hm2 hT
      have hgd : O.filter (fun z => decide (z ∉ bad)) = Turn.good l bad := by rw [HOe.out]; rfl
      have hil : O.filter (fun z => decide (z ∈ bad)) = Turn.ill l bad := by rw [HOe.out]; rfl
      rw [hgd] at hm1 hT
      rw [hil] at hm2 hT
      obtain ⟨T1, hT1⟩ : ∃ T, T = Turn.turns famA (Turn.good l bad) := ⟨_, rfl⟩
      obtain ⟨T2, hT2⟩ : ∃ T, T = Turn.turns famA (Turn.ill l bad) := ⟨_, rfl⟩
      have hl1 : T1.length ≤ 400 := by rw [hT1, Turn.turns_len]; omega
      have hl2 : T2.length ≤ 400 := by rw [hT2, Turn.turns_len]; omega
      have HFin := Lib.hid (show L = T1 ++ T2 by rw [HL.out, hT1, hT2]; rfl)
      have HF1 := Lib.hid (HTu.out (Turn.good l bad) a1 c1 T1 wr ⟨hT1, fun y hy => HKl.out y (Turn.mem_good.1 hy).1⟩ (by omega) hT.l1.row)
      rw [← hm1] at HF1
      have HF2 := Lib.hid (fun (W : World) (h : Below wr.heap.size wr W) => HTu.out (Turn.ill l bad) a2 c2 T2 W ⟨hT2, fun y hy => HKl.out y (Turn.mem_ill.1 hy).1⟩ (by omega) (hT.l2.below h).row)
      rw [← hm2] at HF2
      have HBw := Lib.hid (HB0.out.trans (HB.out.mono HB0.out.size))
      clear hm1 hm2 hT hgd hil hT1 hT2 HM1 HM2 HT HB HTu
      go_wp2_with fail
      with_reducible refine HF1.out.mono ?_
      rintro e w1 ⟨x1, z1, rfl, hr1, hb1⟩
      have HF3 := Lib.hid (HF2.out w1 hb1)
      have HR1 := Lib.hid hr1
      have HB1 := Lib.hid (HBw.out.trans (hb1.mono HBw.out.size))
      clear hr1 hb1 HF1 HF2
      go_wp2_with fail
      with_reducible refine HF3.out.mono ?_
      rintro e w2 ⟨x2, z2, rfl, hr2, hb2⟩
      have hb3 := below1 w2 (.cells #[.slice x1 T1.length z1, .slice x2 T2.length z2] 22)
      have HC := Lib.hid (concat_ad T1 T2 L HFin.out (by omega) x1 x2 z1 z2 w2.heap.size (w2.alloc (.cells #[.slice x1 T1.length z1, .slice x2 T2.length z2] 22)) ((HR1.out.below hb2).below hb3) (hr2.below hb3) (laid1 w2 _))
      have HB2 := Lib.hid ((HB1.out.trans (hb2.mono HB1.out.size)).trans (hb3.mono (HB1.out.trans (hb2.mono HB1.out.size)).size))
      clear hr2 hb2 hb3 HF3 HR1
      go_wp2_with fail
      with_reducible refine HC.out.mono ?_
      rintro e w3 ⟨x3, z3, rfl, hO, hb⟩
      have HO := Lib.hid hO
      have HB3 := Lib.hid (HB2.out.trans (hb.mono HB2.out.size))
      clear hO hb HC
      go_wp2_with fail
      go_ret
      exact ⟨x3, z3, rfl, HO.out.row, HB3.out⟩
end Go.Proofs.Ytcihcdifjnobjaa
