/- Dials, by the landed world. -/
import Derived.Test.YtciohjgcndgiaaaGreatDoorEvt
import Derived.Test.YtciohjgcndgiaaaGreatDoorCallee
import Derived.Test.YtciohjgcndgiaaaGreatDoorFindF
set_option linter.unusedSimpArgs false
set_option linter.unusedVariables false
namespace Go.Proofs.YtciohjgcndgiaaaGreatDoor
open Go.RowKit Go.Proofs.YtciohjgcndgiaaaGreatDoor.Kind

set_option maxHeartbeats 4000000 in
set_option maxRecDepth 1000000 in
theorem dial_spec : DialSpec := by
  intro N A v y a w B r hN hRm hA hB hr
  obtain ⟨ix, hix⟩ : ∃ X, X = idxI (fun d : Di => decide (d.by_ = y)) A.dials := ⟨_, rfl⟩
  have HD := Lib.hid (fun v W (h : DK.RowC W v.ia v.ic A.dials) => hix ▸ dialOf_any A v y W h)
  obtain ⟨nc, hnc⟩ : ∃ X : Int, X = ((A.dials.countP (fun d : Di => decide (d.ad = a)) : Nat) : Int) := ⟨_, rfl⟩
  have HT := Lib.hid (fun v W (h : DK.RowC W v.ia v.ic A.dials) => hnc ▸ dialsTo_any A v a W h)
  obtain ⟨ft, hft⟩ : ∃ X, X = fateP A.plan a nc := ⟨_, rfl⟩
  have HF := Lib.hid (fun v W (h : PlanC W v A.plan) => fate_real A.plan v a nc W ft h hft)
  have hdl : A.dials.length ≤ 400 := hRm.dials
  have HMy := Lib.hid (fun b c W h => may_any [a] 1 rfl b c W h)
  simp only [List.all_cons, List.all_nil, Bool.and_true] at HMy
  simp only [Wv.val, Wv.cells, Ad.v, Pv.val] at HD HT HF
  have HA := Lib.hid hA.world
  have HNN := Lib.hid hN
  have HBg := Lib.hid (fun W (h : WorldC W v A) => begin_any A v W hRm h)
  have HRm := Lib.hid hRm
  clear hA hRm hN
  simp only [Wv.val, Wv.cells, Ad.v] at HBg ⊢
  have hb := below3 w (.cells #[.slice v.p.za A.plan.zones.length v.p.zc, .slice v.p.fa A.plan.fates.length v.p.fc, .int .i64 A.plan.ticks, .slice v.p.da A.plan.drops.length v.p.dc, .int .i64 A.clock, .slice v.sa A.socks.length v.sc, .slice v.ia A.dials.length v.ic, .slice v.la A.looks.length v.lc, .int .i64 A.dropped, .slice v.ma A.marks.length v.mc] 32) (.cells #[.int .i8 a.f, .int .u16 a.g0, .int .u16 a.g1, .int .u16 a.g2, .int .u16 a.g3, .int .u16 a.g4, .int .u16 a.g5, .int .u16 a.g6, .int .u16 a.g7, .int .i64 a.p] 59) (.cells #[.slice none 0 0, .slice none 0 0, .int .i64 0, .slice none 0 0, .int .i64 0, .slice none 0 0, .slice none 0 0, .slice none 0 0, .int .i64 0, .slice none 0 0] 32)
  have hL := laid3 w (.cells #[.slice v.p.za A.plan.zones.length v.p.zc, .slice v.p.fa A.plan.fates.length v.p.fc, .int .i64 A.plan.ticks, .slice v.p.da A.plan.drops.length v.p.dc, .int .i64 A.clock, .slice v.sa A.socks.length v.sc, .slice v.ia A.dials.length v.ic, .slice v.la A.looks.length v.lc, .int .i64 A.dropped, .slice v.ma A.marks.length v.mc] 32) (.cells #[.int .i8 a.f, .int .u16 a.g0, .int .u16 a.g1, .int .u16 a.g2, .int .u16 a.g3, .int .u16 a.g4, .int .u16 a.g5, .int .u16 a.g6, .int .u16 a.g7, .int .i64 a.p] 59) (.cells #[.slice none 0 0, .slice none 0 0, .int .i64 0, .slice none 0 0, .int .i64 0, .slice none 0 0, .slice none 0 0, .slice none 0 0, .int .i64 0, .slice none 0 0] 32)
  go_enter Tryz.func15, Tryz.ntmps15
  go_upto_region 1 with fail
  obtain ⟨w1, hw1⟩ : ∃ X, X = (((w.alloc (.cells #[.slice v.p.za A.plan.zones.length v.p.zc, .slice v.p.fa A.plan.fates.length v.p.fc, .int .i64 A.plan.ticks, .slice v.p.da A.plan.drops.length v.p.dc, .int .i64 A.clock, .slice v.sa A.socks.length v.sc, .slice v.ia A.dials.length v.ic, .slice v.la A.looks.length v.lc, .int .i64 A.dropped, .slice v.ma A.marks.length v.mc] 32)).alloc (.cells #[.int .i8 a.f, .int .u16 a.g0, .int .u16 a.g1, .int .u16 a.g2, .int .u16 a.g3, .int .u16 a.g4, .int .u16 a.g5, .int .u16 a.g6, .int .u16 a.g7, .int .i64 a.p] 59)).alloc (.cells #[.slice none 0 0, .slice none 0 0, .int .i64 0, .slice none 0 0, .int .i64 0, .slice none 0 0, .slice none 0 0, .slice none 0 0, .int .i64 0, .slice none 0 0] 32)) := ⟨_, rfl⟩
  have hsz1 : w1.heap.size = w.heap.size + 3 := by rw [hw1]; simp
  rw [← hw1] at hb hL ⊢
  clear hw1
  generalize hG2 : w.heap.size + 2 = r2 at hL ⊢
  generalize hG1 : w.heap.size + 1 = r1 at hL ⊢
  have HB := Lib.hid hb
  have HX := Lib.hid (HBg.out w1 (HA.out.below hb))
  have Had := Lib.hid (hL.2.1)
  have Hres := Lib.hid (hL.2.2)
  obtain ⟨⟨x0, x1, x2, x3, x4, x5, x6, x7, x8, x9⟩, _⟩ := boxes10 (hL.1)
  have hld := loadW2 (v := v) (A := A) (hL.1)
  clear hL hb HBg
  go_wp2_with fail
  with_reducible refine HX.out.mono ?_
  rintro e w2 ⟨u, g, rfl, hE, hb2⟩
  clear x0 x1 x2 x3 x4 x5 x6 x7 x8 x9 HX hld
  obtain ⟨l1, hl1⟩ : ∃ X, X = w1.heap.size := ⟨_, rfl⟩
  rw [← hl1] at hE hsz1
  have HE := Lib.hid hE
  have hl1w : l1 ≤ w2.heap.size := by have := hb2.size; omega
  replace Had := Lib.hid ((hb2.block _ (lt_of_block Had.out)).trans Had.out)
  replace Hres := Lib.hid ((hb2.block _ (lt_of_block Hres.out)).trans Hres.out)
  have hr1 : r1 < l1 := by omega
  have hlr1 : w.heap.size ≤ r1 := by omega
  have hr2 : r2 < l1 := by omega
  have hlr2 : w.heap.size ≤ r2 := by omega
  replace HB := Lib.hid (HB.out.trans (hb2.mono HB.out.size))
  clear hE hb2 hl1
  clear hG1
  clear hG2
  obtain ⟨⟨k0, k1, k2, k3, k4⟩, k5, k6, k7, k8, k9⟩ := box10 Had.out
  have hlda := load10 Had.out
  have hbU := below1 w2 (.cells #[.int .i8 a.f, .int .u16 a.g0, .int .u16 a.g1, .int .u16 a.g2, .int .u16 a.g3, .int .u16 a.g4, .int .u16 a.g5, .int .u16 a.g6, .int .u16 a.g7, .int .i64 a.p] 59)
  have HX := Lib.hid (HMy.out (some ⟨w2.heap.size, 0, none⟩) 1 (w2.alloc (.cells #[.int .i8 a.f, .int .u16 a.g0, .int .u16 a.g1, .int .u16 a.g2, .int .u16 a.g3, .int .u16 a.g4, .int .u16 a.g5, .int .u16 a.g6, .int .u16 a.g7, .int .i64 a.p] 59)) (rowC_at (K := AK) w2 59 [a] _ w2.heap.size 1 rfl rfl rfl (by simp)))
  go_wp2_with fail
  with_reducible refine HX.out.mono ?_
  rintro e w3 ⟨rfl, hb0⟩
  have hb := hbU.trans (hb0.mono hbU.size)
  clear k0 k1 k2 k3 k4 k5 k6 k7 k8 k9 hlda HX HMy hbU hb0
  replace HE := Lib.hid (HE.out.below hb)
  replace Had := Lib.hid ((hb.block _ (lt_of_block Had.out)).trans Had.out)
  replace Hres := Lib.hid ((hb.block _ (lt_of_block Hres.out)).trans Hres.out)
  replace HB := Lib.hid (HB.out.trans (hb.mono HB.out.size))
  replace hl1w : l1 ≤ w3.heap.size := Nat.le_trans hl1w hb.size
  clear hb
  cases hmy : mayP a with
  | false =>
    obtain rfl : B = A := by rw [hB]; unfold dialP dialE; rw [if_pos hmy, if_neg (by decide)]
    obtain rfl : r = 20 := by rw [hr]; unfold dialE; rw [if_pos hmy]
    clear hB hr hmy
    have hcz := HE.out.box
    obtain ⟨⟨y0, y1, y2, y3, y4, y5, y6, y7, y8, y9⟩, g0, g1, g2, g3, g4, g5, g6, g7, g8, g9⟩ := boxes10 Hres.out
    have hld := loadW2 (v := u) (A := B) HE.out.box
    obtain ⟨⟨x0, x1, x2, x3, x4, x5, x6, x7, x8, x9⟩, f0, f1, f2, f3, f4, f5, f6, f7, f8, f9⟩ := boxes10 HE.out.box
    clear hcz
    go_wp2_with fail
    have hz2 := set10_at Hres.out (.slice u.p.za B.plan.zones.length u.p.zc) (.slice u.p.fa B.plan.fates.length u.p.fc) (.int .i64 B.plan.ticks) (.slice u.p.da B.plan.drops.length u.p.dc) (.int .i64 B.clock) (.slice u.sa B.socks.length u.sc) (.slice u.ia B.dials.length u.ic) (.slice u.la B.looks.length u.lc) (.int .i64 B.dropped) (.slice u.ma B.marks.length u.mc)
    have hb2 := set10_below HB.out hlr2 (.slice u.p.za B.plan.zones.length u.p.zc) (.slice u.p.fa B.plan.fates.length u.p.fc) (.int .i64 B.plan.ticks) (.slice u.p.da B.plan.drops.length u.p.dc) (.int .i64 B.clock) (.slice u.sa B.socks.length u.sc) (.slice u.ia B.dials.length u.ic) (.slice u.la B.looks.length u.lc) (.int .i64 B.dropped) (.slice u.ma B.marks.length u.mc)
    refine bodyPost_ret (res_cell_tmp rfl _ _ _ r2 rfl _ (loadW2 (v := u) (A := B) hz2)) rfl ?_
    exact ⟨u, by first | rfl | exact HFin.out, HE.out.ret hr2 (fun b hb => by have := HNN.out b hb; omega) (.slice u.p.za B.plan.zones.length u.p.zc) (.slice u.p.fa B.plan.fates.length u.p.fc) (.int .i64 B.plan.ticks) (.slice u.p.da B.plan.drops.length u.p.dc) (.int .i64 B.clock) (.slice u.sa B.socks.length u.sc) (.slice u.ia B.dials.length u.ic) (.slice u.la B.looks.length u.lc) (.int .i64 B.dropped) (.slice u.ma B.marks.length u.mc), hb2⟩
  | true =>
    have hmn : ¬ mayP a = false := by rw [hmy]; simp
    have Hmn := Lib.hid hmn
    clear hmy hmn
    obtain ⟨⟨x0, x1, x2, x3, x4, x5, x6, x7, x8, x9⟩, f0, f1, f2, f3, f4, f5, f6, f7, f8, f9⟩ := boxes10 HE.out.box
    have HX := Lib.hid (HD.out u w3 HE.out.dials.row)
    have hld := loadS (v := u) (A := A) HE.out.box
    go_wp2_with fail
    with_reducible refine HX.out.mono ?_
    rintro e w4 ⟨rfl, hb⟩
    clear x0 x1 x2 x3 x4 x5 x6 x7 x8 x9 f0 f1 f2 f3 f4 f5 f6 f7 f8 f9
    clear hld HX HD
    replace HE := Lib.hid (HE.out.below hb)
    replace Had := Lib.hid ((hb.block _ (lt_of_block Had.out)).trans Had.out)
    replace Hres := Lib.hid ((hb.block _ (lt_of_block Hres.out)).trans Hres.out)
    replace HB := Lib.hid (HB.out.trans (hb.mono HB.out.size))
    replace hl1w : l1 ≤ w4.heap.size := Nat.le_trans hl1w hb.size
    clear hb
    cases hof : dialOf A y with
    | some d =>
      obtain ⟨hx, hby, hi, hlt⟩ := dial_some hof
      have hi2 : ix = (dialIx A y : Nat) := by rw [hix]; exact hi
      have hde : decide ((0 : Int) ≤ ix) = true := by rw [hi2]; simp
      obtain rfl : r = 100 := by rw [hr]; unfold dialE; rw [if_neg Hmn.out, hof]; rfl
      obtain rfl : B = A := by rw [hB]; unfold dialP dialE; rw [if_neg Hmn.out, hof]; rfl
      have hix0 : (0 : Int) ≤ ix := by omega
      clear hB hr hof hx hby hi hlt hi2 hix hnc hft
      have hcz := HE.out.box
      obtain ⟨⟨y0, y1, y2, y3, y4, y5, y6, y7, y8, y9⟩, g0, g1, g2, g3, g4, g5, g6, g7, g8, g9⟩ := boxes10 Hres.out
      have hld := loadW2 (v := u) (A := B) HE.out.box
      obtain ⟨⟨x0, x1, x2, x3, x4, x5, x6, x7, x8, x9⟩, f0, f1, f2, f3, f4, f5, f6, f7, f8, f9⟩ := boxes10 HE.out.box
      clear hcz
      go_wp2_with fail
      have hz2 := set10_at Hres.out (.slice u.p.za B.plan.zones.length u.p.zc) (.slice u.p.fa B.plan.fates.length u.p.fc) (.int .i64 B.plan.ticks) (.slice u.p.da B.plan.drops.length u.p.dc) (.int .i64 B.clock) (.slice u.sa B.socks.length u.sc) (.slice u.ia B.dials.length u.ic) (.slice u.la B.looks.length u.lc) (.int .i64 B.dropped) (.slice u.ma B.marks.length u.mc)
      have hb2 := set10_below HB.out hlr2 (.slice u.p.za B.plan.zones.length u.p.zc) (.slice u.p.fa B.plan.fates.length u.p.fc) (.int .i64 B.plan.ticks) (.slice u.p.da B.plan.drops.length u.p.dc) (.int .i64 B.clock) (.slice u.sa B.socks.length u.sc) (.slice u.ia B.dials.length u.ic) (.slice u.la B.looks.length u.lc) (.int .i64 B.dropped) (.slice u.ma B.marks.length u.mc)
      refine bodyPost_ret (res_cell_tmp rfl _ _ _ r2 rfl _ (loadW2 (v := u) (A := B) hz2)) rfl ?_
      exact ⟨u, by first | rfl | exact HFin.out, HE.out.ret hr2 (fun b hb => by have := HNN.out b hb; omega) (.slice u.p.za B.plan.zones.length u.p.zc) (.slice u.p.fa B.plan.fates.length u.p.fc) (.int .i64 B.plan.ticks) (.slice u.p.da B.plan.drops.length u.p.dc) (.int .i64 B.clock) (.slice u.sa B.socks.length u.sc) (.slice u.ia B.dials.length u.ic) (.slice u.la B.looks.length u.lc) (.int .i64 B.dropped) (.slice u.ma B.marks.length u.mc), hb2⟩
    | none =>
      obtain rfl : ix = -1 := by rw [hix]; exact dial_none hof
      obtain rfl : r = 0 := by rw [hr]; unfold dialE; rw [if_neg Hmn.out, hof]; rfl
      obtain ⟨L, hL⟩ : ∃ L, L = A.dials ++ [(⟨y, a, ft, false, false⟩ : Di)] := ⟨_, rfl⟩
      have hBE := Lib.hid (show B = { A with dials := L } from by rw [hB, hL, hft, hnc]; unfold dialP dialE; rw [if_neg Hmn.out, hof]; rfl)
      have HL := Lib.hid hL
      clear hB hr hof hix hnc hft hL
      go_upto_region 6 with fail
      have HSB := Lib.hid (show ∀ W : World, Below w4.heap.size w4 W → ((W.cell? ⟨g, 0, none⟩ = some (.slice u.p.za A.plan.zones.length u.p.zc) ∧ W.cell? ⟨g, 1, none⟩ = some (.slice u.p.fa A.plan.fates.length u.p.fc) ∧ W.cell? ⟨g, 2, none⟩ = some (.int .i64 A.plan.ticks) ∧ W.cell? ⟨g, 3, none⟩ = some (.slice u.p.da A.plan.drops.length u.p.dc) ∧ W.cell? ⟨g, 4, none⟩ = some (.int .i64 A.clock) ∧ W.cell? ⟨g, 5, none⟩ = some (.slice u.sa A.socks.length u.sc) ∧ W.cell? ⟨g, 6, none⟩ = some (.slice u.ia A.dials.length u.ic) ∧ W.cell? ⟨g, 7, none⟩ = some (.slice u.la A.looks.length u.lc) ∧ W.cell? ⟨g, 8, none⟩ = some (.int .i64 A.dropped) ∧ W.cell? ⟨g, 9, none⟩ = some (.slice u.ma A.marks.length u.mc)) ∧ (W.cell? ⟨r1, 0, none⟩ = some (.int .i8 a.f) ∧ W.cell? ⟨r1, 1, none⟩ = some (.int .u16 a.g0) ∧ W.cell? ⟨r1, 2, none⟩ = some (.int .u16 a.g1) ∧ W.cell? ⟨r1, 3, none⟩ = some (.int .u16 a.g2) ∧ W.cell? ⟨r1, 4, none⟩ = some (.int .u16 a.g3) ∧ W.cell? ⟨r1, 5, none⟩ = some (.int .u16 a.g4) ∧ W.cell? ⟨r1, 6, none⟩ = some (.int .u16 a.g5) ∧ W.cell? ⟨r1, 7, none⟩ = some (.int .u16 a.g6) ∧ W.cell? ⟨r1, 8, none⟩ = some (.int .u16 a.g7) ∧ W.cell? ⟨r1, 9, none⟩ = some (.int .i64 a.p))) ∧ Below w4.heap.size w4 W from fun W h => ⟨⟨(boxes10 ((h.block _ (lt_of_block HE.out.box)).trans HE.out.box)).1, by have q := box10 ((h.block _ (lt_of_block Had.out)).trans Had.out); exact ⟨q.1.1, q.1.2.1, q.1.2.2.1, q.1.2.2.2.1, q.1.2.2.2.2, q.2⟩⟩, h⟩)
      have HT2 := Lib.hid (fun W (h : Below w4.heap.size w4 W) => HT.out u W (HE.out.below h).dials.row)
      have HF2 := Lib.hid (fun W (h : Below w4.heap.size w4 W) => HF.out u.p W (HE.out.below h).plan.now)
      go_region_held3 (fun W => ((W.cell? ⟨g, 0, none⟩ = some (.slice u.p.za A.plan.zones.length u.p.zc) ∧ W.cell? ⟨g, 1, none⟩ = some (.slice u.p.fa A.plan.fates.length u.p.fc) ∧ W.cell? ⟨g, 2, none⟩ = some (.int .i64 A.plan.ticks) ∧ W.cell? ⟨g, 3, none⟩ = some (.slice u.p.da A.plan.drops.length u.p.dc) ∧ W.cell? ⟨g, 4, none⟩ = some (.int .i64 A.clock) ∧ W.cell? ⟨g, 5, none⟩ = some (.slice u.sa A.socks.length u.sc) ∧ W.cell? ⟨g, 6, none⟩ = some (.slice u.ia A.dials.length u.ic) ∧ W.cell? ⟨g, 7, none⟩ = some (.slice u.la A.looks.length u.lc) ∧ W.cell? ⟨g, 8, none⟩ = some (.int .i64 A.dropped) ∧ W.cell? ⟨g, 9, none⟩ = some (.slice u.ma A.marks.length u.mc)) ∧ (W.cell? ⟨r1, 0, none⟩ = some (.int .i8 a.f) ∧ W.cell? ⟨r1, 1, none⟩ = some (.int .u16 a.g0) ∧ W.cell? ⟨r1, 2, none⟩ = some (.int .u16 a.g1) ∧ W.cell? ⟨r1, 3, none⟩ = some (.int .u16 a.g2) ∧ W.cell? ⟨r1, 4, none⟩ = some (.int .u16 a.g3) ∧ W.cell? ⟨r1, 5, none⟩ = some (.int .u16 a.g4) ∧ W.cell? ⟨r1, 6, none⟩ = some (.int .u16 a.g5) ∧ W.cell? ⟨r1, 7, none⟩ = some (.int .u16 a.g6) ∧ W.cell? ⟨r1, 8, none⟩ = some (.int .u16 a.g7) ∧ W.cell? ⟨r1, 9, none⟩ = some (.int .i64 a.p))) ∧ Below w4.heap.size w4 W)
        (first | assumption | exact HSB.out _ (Below.refl _ _) | exact HSB.out _ (kept_call (by assumption) hbC) | exact HSB.out _ (Below.refl _ _).drew)
        (first
          | (go_at_call 41; (with_reducible refine (HT2.out _ (kept_self (by assumption))).mono ?_); rintro e wC ⟨rfl, hbC⟩)
          | (go_at_call 40; (with_reducible refine (HF2.out _ (kept_self (by assumption))).mono ?_); rintro e wC ⟨rfl, hbC⟩))
      have hb : Below w4.heap.size w4 wC := by first | exact kept_self (by assumption) | exact kept_call (by assumption) hbC | exact kept_call (by assumption) (Below.refl _ wC)
      clear HSB HT2 HF2 HT HF
      replace HE := Lib.hid (HE.out.below hb)
      replace Had := Lib.hid ((hb.block _ (lt_of_block Had.out)).trans Had.out)
      replace Hres := Lib.hid ((hb.block _ (lt_of_block Hres.out)).trans Hres.out)
      replace HB := Lib.hid (HB.out.trans (hb.mono HB.out.size))
      replace hl1w : l1 ≤ wC.heap.size := Nat.le_trans hl1w hb.size
      clear hb
      go_upto_region 7 with fail
      have hbd : Below wC.heap.size wC (wC.alloc (.cells #[.int .i64 y, .int .i8 a.f, .int .u16 a.g0, .int .u16 a.g1, .int .u16 a.g2, .int .u16 a.g3, .int .u16 a.g4, .int .u16 a.g5, .int .u16 a.g6, .int .u16 a.g7, .int .i64 a.p, .int .i8 ft, .bool false, .bool false] 95)).drew := ((Below.refl _ wC).alloc (Nat.le_refl _) _).drew
      have HRw := Lib.hid (show DK.RowC (wC.alloc (.cells #[.int .i64 y, .int .i8 a.f, .int .u16 a.g0, .int .u16 a.g1, .int .u16 a.g2, .int .u16 a.g3, .int .u16 a.g4, .int .u16 a.g5, .int .u16 a.g6, .int .u16 a.g7, .int .i64 a.p, .int .i8 ft, .bool false, .bool false] 95)).drew (some ⟨wC.heap.size, 0, none⟩) 1 [(⟨y, a, ft, false, false⟩ : Di)] from rowC_at (K := DK) wC 95 [(⟨y, a, ft, false, false⟩ : Di)] _ wC.heap.size 1 rfl rfl rfl (by simp))
      obtain ⟨wd, hwd⟩ : ∃ X, X = (wC.alloc (.cells #[.int .i64 y, .int .i8 a.f, .int .u16 a.g0, .int .u16 a.g1, .int .u16 a.g2, .int .u16 a.g3, .int .u16 a.g4, .int .u16 a.g5, .int .u16 a.g6, .int .u16 a.g7, .int .i64 a.p, .int .i8 ft, .bool false, .bool false] 95)).drew := ⟨_, rfl⟩
      have HEd := Lib.hid (HE.out.below hbd)
      have HBd := Lib.hid hbd
      have HLe := Lib.hid (Nat.le_trans hl1w hbd.size)
      rw [← hwd] at HEd HBd HLe HRw
      have HW := Lib.hid hwd
      clear hwd hbd
      obtain ⟨⟨x0, x1, x2, x3, x4, x5, x6, x7, x8, x9⟩, f0, f1, f2, f3, f4, f5, f6, f7, f8, f9⟩ := boxes10 HE.out.box
      obtain ⟨⟨k0, k1, k2, k3, k4⟩, k5, k6, k7, k8, k9⟩ := box10 Had.out
      have hlda := load10 Had.out
      have hn6 : (wC.alloc (.cells #[.int .i64 y, .int .i8 a.f, .int .u16 a.g0, .int .u16 a.g1, .int .u16 a.g2, .int .u16 a.g3, .int .u16 a.g4, .int .u16 a.g5, .int .u16 a.g6, .int .u16 a.g7, .int .i64 a.p, .int .i8 ft, .bool false, .bool false] 95)).cell? ⟨g, 6, none⟩ = some (.slice u.ia A.dials.length u.ic) := ((below1 wC (.cells #[.int .i64 y, .int .i8 a.f, .int .u16 a.g0, .int .u16 a.g1, .int .u16 a.g2, .int .u16 a.g3, .int .u16 a.g4, .int .u16 a.g5, .int .u16 a.g6, .int .u16 a.g7, .int .i64 a.p, .int .i8 ft, .bool false, .bool false] 95)).cell (p := ⟨g, 6, none⟩) (lt_of_block HE.out.box)).trans x6
      go_region_law (first
        | (rw [← HW.out]; refine DK.step_append_loose rfl _ _ rfl l1 u.ia A.dials.length u.ic rfl A.dials rfl HEd.out.dials (some ⟨wC.heap.size, 0, none⟩) 1 1 rfl [(⟨y, a, ft, false, false⟩ : Di)] rfl (by simp) HRw.out (by simp; omega) HLe.out L HL.out ?_; intro a9 c9 wz hD9 hg9 hw9; obtain ⟨hE9, hbx⟩ := HEd.out.moreDials HLe.out hD9 hg9 hw9; obtain ⟨⟨z0, z1, z2, z3, z4, z5, z6, z7, z8, z9⟩, j0, j1, j2, j3, j4, j5, j6, j7, j8, j9⟩ := boxes10 (hbx.trans HEd.out.box)))
      all_goals
        obtain ⟨row9, hgr9, hrow9⟩ := hg9
        have hbl : Below l1 wd wz := (Below.refl l1 wd).grown hgr9 HLe.out (fun k e => (hrow9 k e).1)
        clear z0 z1 z2 z3 z4 z5 z6 z7 z8 z9 j0 j1 j2 j3 j4 j5 j6 j7 j8 j9 k0 k1 k2 k3 k4 k5 k6 k7 k8 k9 hlda hn6 hD9 hw9 hgr9 hrow9 hbx
        clear x0 x1 x2 x3 x4 x5 x6 x7 x8 x9 f0 f1 f2 f3 f4 f5 f6 f7 f8 f9
        have hlz : l1 ≤ wz.heap.size := Nat.le_trans HLe.out hbl.size
        have hw1 : w.heap.size ≤ l1 := by omega
        have hb9 := (HB.out.trans ((HBd.out.mono HB.out.size).trans (hbl.mono hw1))).setCell (p := ⟨g, 6, none⟩) (by have := HE.out.hg; dsimp only; omega) (.slice a9 L.length c9)
        have hsres := (Below.heap_setCell wz ⟨g, 6, none⟩ (.slice a9 L.length c9) r2 (by have := HE.out.hg; dsimp only; omega)).trans ((hbl.block r2 hr2).trans ((HBd.out.block _ (lt_of_block Hres.out)).trans Hres.out))
        obtain ⟨qz, hqz⟩ : ∃ X, X = wz.setCell ⟨g, 6, none⟩ (.slice a9 L.length c9) := ⟨_, rfl⟩
        rw [← hqz] at hE9 hb9 hsres ⊢
        clear hqz
        replace HE := Lib.hid hE9
        replace HB := Lib.hid hb9
        replace Hres := Lib.hid hsres
        clear hE9 hb9 hsres hbl hlz HW HRw HEd HBd HLe
        rw [← hBE.out] at HE
        have hcz := HE.out.box
        obtain ⟨⟨y0, y1, y2, y3, y4, y5, y6, y7, y8, y9⟩, g0, g1, g2, g3, g4, g5, g6, g7, g8, g9⟩ := boxes10 Hres.out
        have hld := loadW2 (v := ({ u with ia := a9, ic := c9 } : Wv)) (A := B) HE.out.box
        obtain ⟨⟨x0, x1, x2, x3, x4, x5, x6, x7, x8, x9⟩, f0, f1, f2, f3, f4, f5, f6, f7, f8, f9⟩ := boxes10 HE.out.box
        clear hcz
        go_wp2_with fail
        have hz2 := set10_at Hres.out (.slice u.p.za B.plan.zones.length u.p.zc) (.slice u.p.fa B.plan.fates.length u.p.fc) (.int .i64 B.plan.ticks) (.slice u.p.da B.plan.drops.length u.p.dc) (.int .i64 B.clock) (.slice u.sa B.socks.length u.sc) (.slice a9 B.dials.length c9) (.slice u.la B.looks.length u.lc) (.int .i64 B.dropped) (.slice u.ma B.marks.length u.mc)
        have hb2 := set10_below HB.out hlr2 (.slice u.p.za B.plan.zones.length u.p.zc) (.slice u.p.fa B.plan.fates.length u.p.fc) (.int .i64 B.plan.ticks) (.slice u.p.da B.plan.drops.length u.p.dc) (.int .i64 B.clock) (.slice u.sa B.socks.length u.sc) (.slice a9 B.dials.length c9) (.slice u.la B.looks.length u.lc) (.int .i64 B.dropped) (.slice u.ma B.marks.length u.mc)
        refine bodyPost_ret (res_cell_tmp rfl _ _ _ r2 rfl _ (loadW2 (v := ({ u with ia := a9, ic := c9 } : Wv)) (A := B) hz2)) rfl ?_
        exact ⟨({ u with ia := a9, ic := c9 } : Wv), by first | rfl | exact HFin.out, HE.out.ret hr2 (fun b hb => by have := HNN.out b hb; omega) (.slice u.p.za B.plan.zones.length u.p.zc) (.slice u.p.fa B.plan.fates.length u.p.fc) (.int .i64 B.plan.ticks) (.slice u.p.da B.plan.drops.length u.p.dc) (.int .i64 B.clock) (.slice u.sa B.socks.length u.sc) (.slice a9 B.dials.length c9) (.slice u.la B.looks.length u.lc) (.int .i64 B.dropped) (.slice u.ma B.marks.length u.mc), hb2⟩

end Go.Proofs.YtciohjgcndgiaaaGreatDoor
