/- Ticks and cuts, by the landed world. -/
import Derived.Test.YtciohjgcndgiaaaEvt
import Derived.Test.YtciohjgcndgiaaaSpecs
set_option linter.unusedSimpArgs false
set_option linter.unusedVariables false
namespace Go.Proofs.Ytciohjgcndgiaaa
open Go.RowKit Go.Proofs.Ytciohjgcndgiaaa.Kind

set_option maxHeartbeats 8000000 in
set_option maxRecDepth 1000000 in
theorem tick_spec : TickSpec := by
  intro N A v w B r hN hRm hA hB hr
  have hck := hRm.clock
  have htk := hRm.ticks
  have HA := Lib.hid hA.world
  have HNN := Lib.hid hN
  have HBg := Lib.hid (fun W (h : WorldC W v A) => begin_any A v W hRm h)
  have HRm := Lib.hid hRm
  clear hA hRm hN
  simp only [Wv.val, Wv.cells, Ad.v] at HBg ⊢
  have hb := below2 w (.cells #[.slice v.p.za A.plan.zones.length v.p.zc, .slice v.p.fa A.plan.fates.length v.p.fc, .int .i64 A.plan.ticks, .slice v.p.da A.plan.drops.length v.p.dc, .int .i64 A.clock, .slice v.sa A.socks.length v.sc, .slice v.ia A.dials.length v.ic, .slice v.la A.looks.length v.lc, .int .i64 A.dropped, .slice v.ma A.marks.length v.mc] 33) (.cells #[.slice none 0 0, .slice none 0 0, .int .i64 0, .slice none 0 0, .int .i64 0, .slice none 0 0, .slice none 0 0, .slice none 0 0, .int .i64 0, .slice none 0 0] 33)
  have hL := laid2 w (.cells #[.slice v.p.za A.plan.zones.length v.p.zc, .slice v.p.fa A.plan.fates.length v.p.fc, .int .i64 A.plan.ticks, .slice v.p.da A.plan.drops.length v.p.dc, .int .i64 A.clock, .slice v.sa A.socks.length v.sc, .slice v.ia A.dials.length v.ic, .slice v.la A.looks.length v.lc, .int .i64 A.dropped, .slice v.ma A.marks.length v.mc] 33) (.cells #[.slice none 0 0, .slice none 0 0, .int .i64 0, .slice none 0 0, .int .i64 0, .slice none 0 0, .slice none 0 0, .slice none 0 0, .int .i64 0, .slice none 0 0] 33)
  go_enter Try.func8, Try.ntmps8
  go_upto_region 1 with fail
  obtain ⟨w1, hw1⟩ : ∃ X, X = ((w.alloc (.cells #[.slice v.p.za A.plan.zones.length v.p.zc, .slice v.p.fa A.plan.fates.length v.p.fc, .int .i64 A.plan.ticks, .slice v.p.da A.plan.drops.length v.p.dc, .int .i64 A.clock, .slice v.sa A.socks.length v.sc, .slice v.ia A.dials.length v.ic, .slice v.la A.looks.length v.lc, .int .i64 A.dropped, .slice v.ma A.marks.length v.mc] 33)).alloc (.cells #[.slice none 0 0, .slice none 0 0, .int .i64 0, .slice none 0 0, .int .i64 0, .slice none 0 0, .slice none 0 0, .slice none 0 0, .int .i64 0, .slice none 0 0] 33)) := ⟨_, rfl⟩
  have hsz1 : w1.heap.size = w.heap.size + 2 := by rw [hw1]; simp
  rw [← hw1] at hb hL ⊢
  clear hw1
  generalize hG1 : w.heap.size + 1 = r1 at hL ⊢
  have HB := Lib.hid hb
  have HX := Lib.hid (HBg.out w1 (HA.out.below hb))
  have Hres := Lib.hid (hL.2)
  obtain ⟨⟨x0, x1, x2, x3, x4, x5, x6, x7, x8, x9⟩, _⟩ := boxes10 (hL.1)
  have hld := loadW2 (v := v) (A := A) (hL.1)
  clear hL hb HBg
  go_wp2_with fail
  with_reducible refine HX.out.mono ?_
  rintro e w2 ⟨u, g, rfl, hE, hb2⟩
  clear x0 x1 x2 x3 x4 x5 x6 x7 x8 x9 HX hld
  obtain ⟨l1, hl1⟩ : ∃ X, X = w1.heap.size := ⟨_, rfl⟩
  rw [← hl1] at hE hsz1
  have HE := Lib.hid hE
  have hl1w : l1 ≤ w2.heap.size := by have := hb2.size; omega
  replace Hres := Lib.hid ((hb2.block _ (lt_of_block Hres.out)).trans Hres.out)
  have hr1 : r1 < l1 := by omega
  have hlr1 : w.heap.size ≤ r1 := by omega
  replace HB := Lib.hid (HB.out.trans (hb2.mono HB.out.size))
  clear hE hb2 hl1
  clear hG1
  obtain ⟨⟨x0, x1, x2, x3, x4, x5, x6, x7, x8, x9⟩, f0, f1, f2, f3, f4, f5, f6, f7, f8, f9⟩ := boxes10 HE.out.box
  by_cases h : A.plan.ticks ≤ A.clock
  · obtain rfl : B = A := by rw [hB]; unfold tickP; rw [if_pos h]
    obtain rfl : r = 70 := by rw [hr]; unfold tickE; rw [if_pos h]
    clear hB hr
    have hdt : decide (B.plan.ticks ≤ B.clock) = true := by simp [h]
    go_wp2_with fail
    go_quiet (fail)
    clear x0 x1 x2 x3 x4 x5 x6 x7 x8 x9 f0 f1 f2 f3 f4 f5 f6 f7 f8 f9
    first | (obtain ⟨q1, hq1⟩ : ∃ X, X = w2.drewN nq := ⟨_, rfl⟩) | (obtain ⟨q1, hq1⟩ : ∃ X, X = w2 := ⟨_, rfl⟩)
    have hb : Below w2.heap.size w2 q1 := by rw [hq1]; first | exact below_drewN (Below.refl _ _) _ | exact Below.refl _ _
    rw [← hq1]
    clear hq1
    replace HE := Lib.hid (HE.out.below hb)
    replace Hres := Lib.hid ((hb.block _ (lt_of_block Hres.out)).trans Hres.out)
    replace HB := Lib.hid (HB.out.trans (hb.mono HB.out.size))
    replace hl1w : l1 ≤ q1.heap.size := Nat.le_trans hl1w hb.size
    clear hb
    have hcz := HE.out.box
    obtain ⟨⟨y0, y1, y2, y3, y4, y5, y6, y7, y8, y9⟩, g0, g1, g2, g3, g4, g5, g6, g7, g8, g9⟩ := boxes10 Hres.out
    have hld := loadW2 (v := u) (A := B) HE.out.box
    obtain ⟨⟨x0, x1, x2, x3, x4, x5, x6, x7, x8, x9⟩, f0, f1, f2, f3, f4, f5, f6, f7, f8, f9⟩ := boxes10 HE.out.box
    clear hcz
    go_wp2_with fail
    have hz2 := set10_at Hres.out (.slice u.p.za B.plan.zones.length u.p.zc) (.slice u.p.fa B.plan.fates.length u.p.fc) (.int .i64 B.plan.ticks) (.slice u.p.da B.plan.drops.length u.p.dc) (.int .i64 B.clock) (.slice u.sa B.socks.length u.sc) (.slice u.ia B.dials.length u.ic) (.slice u.la B.looks.length u.lc) (.int .i64 B.dropped) (.slice u.ma B.marks.length u.mc)
    have hb2 := set10_below HB.out hlr1 (.slice u.p.za B.plan.zones.length u.p.zc) (.slice u.p.fa B.plan.fates.length u.p.fc) (.int .i64 B.plan.ticks) (.slice u.p.da B.plan.drops.length u.p.dc) (.int .i64 B.clock) (.slice u.sa B.socks.length u.sc) (.slice u.ia B.dials.length u.ic) (.slice u.la B.looks.length u.lc) (.int .i64 B.dropped) (.slice u.ma B.marks.length u.mc)
    refine bodyPost_ret (res_cell_tmp rfl _ _ _ r1 rfl _ (loadW2 (v := u) (A := B) hz2)) rfl ?_
    exact ⟨u, by first | rfl | exact HFin.out, HE.out.ret hr1 (fun b hb => by have := HNN.out b hb; omega) (.slice u.p.za B.plan.zones.length u.p.zc) (.slice u.p.fa B.plan.fates.length u.p.fc) (.int .i64 B.plan.ticks) (.slice u.p.da B.plan.drops.length u.p.dc) (.int .i64 B.clock) (.slice u.sa B.socks.length u.sc) (.slice u.ia B.dials.length u.ic) (.slice u.la B.looks.length u.lc) (.int .i64 B.dropped) (.slice u.ma B.marks.length u.mc), hb2⟩
  · have hBE := Lib.hid (show B = { A with clock := A.clock + 1 } from by rw [hB]; unfold tickP; rw [if_neg h])
    obtain rfl : r = 0 := by rw [hr]; unfold tickE; rw [if_neg h]
    clear hB hr
    have hdt : decide (A.plan.ticks ≤ A.clock) = false := by simp [h]
    have hlt : A.clock < A.plan.ticks := by omega
    have hw : IntKind.i64.wrap (A.clock + 1) = A.clock + 1 := by rw [IntKind.wrap_i64]; omega
    go_wp2_with fail
    go_quiet (fail)
    clear x0 x1 x2 x3 x4 x5 x6 x7 x8 x9 f0 f1 f2 f3 f4 f5 f6 f7 f8 f9
    first | (obtain ⟨q1, hq1⟩ : ∃ X, X = w2.drewN nq := ⟨_, rfl⟩) | (obtain ⟨q1, hq1⟩ : ∃ X, X = w2 := ⟨_, rfl⟩)
    have hb : Below w2.heap.size w2 q1 := by rw [hq1]; first | exact below_drewN (Below.refl _ _) _ | exact Below.refl _ _
    rw [← hq1]
    clear hq1
    replace HE := Lib.hid (HE.out.below hb)
    replace Hres := Lib.hid ((hb.block _ (lt_of_block Hres.out)).trans Hres.out)
    replace HB := Lib.hid (HB.out.trans (hb.mono HB.out.size))
    replace hl1w : l1 ≤ q1.heap.size := Nat.le_trans hl1w hb.size
    clear hb
    obtain ⟨⟨x0, x1, x2, x3, x4, x5, x6, x7, x8, x9⟩, f0, f1, f2, f3, f4, f5, f6, f7, f8, f9⟩ := boxes10 HE.out.box
    go_upto_region 5 with fail
    clear x0 x1 x2 x3 x4 x5 x6 x7 x8 x9 f0 f1 f2 f3 f4 f5 f6 f7 f8 f9
    have hE9 := HE.out.clock (A.clock + 1)
    have hb9 := HB.out.setCell (p := ⟨g, 4, none⟩) (by have := HE.out.hg; have := hlr1; dsimp only; omega) (.int .i64 (A.clock + 1))
    have hsres := (Below.heap_setCell q1 ⟨g, 4, none⟩ (.int .i64 (A.clock + 1)) r1 (by have := HE.out.hg; dsimp only; omega)).trans Hres.out
    obtain ⟨q2, hq2⟩ : ∃ X, X = q1.setCell ⟨g, 4, none⟩ (.int .i64 (A.clock + 1)) := ⟨_, rfl⟩
    have hs9 : l1 ≤ (q1.setCell ⟨g, 4, none⟩ (.int .i64 (A.clock + 1))).heap.size := by simpa using hl1w
    rw [← hq2] at hE9 hb9 hs9 hsres ⊢
    clear hq2
    replace HE := Lib.hid hE9
    replace HB := Lib.hid hb9
    replace hl1w := hs9
    replace Hres := Lib.hid hsres
    clear hE9 hb9 hs9 hsres
    rw [← hBE.out] at HE
    clear hw
    have hcz := HE.out.box
    obtain ⟨⟨y0, y1, y2, y3, y4, y5, y6, y7, y8, y9⟩, g0, g1, g2, g3, g4, g5, g6, g7, g8, g9⟩ := boxes10 Hres.out
    have hld := loadW2 (v := u) (A := B) HE.out.box
    obtain ⟨⟨x0, x1, x2, x3, x4, x5, x6, x7, x8, x9⟩, f0, f1, f2, f3, f4, f5, f6, f7, f8, f9⟩ := boxes10 HE.out.box
    clear hcz
    go_wp2_with fail
    have hz2 := set10_at Hres.out (.slice u.p.za B.plan.zones.length u.p.zc) (.slice u.p.fa B.plan.fates.length u.p.fc) (.int .i64 B.plan.ticks) (.slice u.p.da B.plan.drops.length u.p.dc) (.int .i64 B.clock) (.slice u.sa B.socks.length u.sc) (.slice u.ia B.dials.length u.ic) (.slice u.la B.looks.length u.lc) (.int .i64 B.dropped) (.slice u.ma B.marks.length u.mc)
    have hb2 := set10_below HB.out hlr1 (.slice u.p.za B.plan.zones.length u.p.zc) (.slice u.p.fa B.plan.fates.length u.p.fc) (.int .i64 B.plan.ticks) (.slice u.p.da B.plan.drops.length u.p.dc) (.int .i64 B.clock) (.slice u.sa B.socks.length u.sc) (.slice u.ia B.dials.length u.ic) (.slice u.la B.looks.length u.lc) (.int .i64 B.dropped) (.slice u.ma B.marks.length u.mc)
    refine bodyPost_ret (res_cell_tmp rfl _ _ _ r1 rfl _ (loadW2 (v := u) (A := B) hz2)) rfl ?_
    exact ⟨u, by first | rfl | exact HFin.out, HE.out.ret hr1 (fun b hb => by have := HNN.out b hb; omega) (.slice u.p.za B.plan.zones.length u.p.zc) (.slice u.p.fa B.plan.fates.length u.p.fc) (.int .i64 B.plan.ticks) (.slice u.p.da B.plan.drops.length u.p.dc) (.int .i64 B.clock) (.slice u.sa B.socks.length u.sc) (.slice u.ia B.dials.length u.ic) (.slice u.la B.looks.length u.lc) (.int .i64 B.dropped) (.slice u.ma B.marks.length u.mc), hb2⟩

end Go.Proofs.Ytciohjgcndgiaaa
