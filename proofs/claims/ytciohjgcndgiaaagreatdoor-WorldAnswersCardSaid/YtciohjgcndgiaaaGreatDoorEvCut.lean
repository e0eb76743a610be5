/- Cuts, by the landed world. -/
import Derived.Test.YtciohjgcndgiaaaGreatDoorEvt
set_option linter.unusedSimpArgs false
set_option linter.unusedVariables false
namespace Go.Proofs.YtciohjgcndgiaaaGreatDoor
open Go.RowKit Go.Proofs.YtciohjgcndgiaaaGreatDoor.Kind

set_option maxHeartbeats 8000000 in
set_option maxRecDepth 1000000 in
theorem cut_spec : CutSpec := by
  intro N A v y w B hN hRm hA hB
  obtain ⟨ix, hix⟩ : ∃ X, X = idxI (fun d : Di => decide (d.by_ = y)) A.dials := ⟨_, rfl⟩
  have HD := Lib.hid (fun v W (h : DK.RowC W v.ia v.ic A.dials) => hix ▸ dialOf_any A v y W h)
  have hlm : A.dials.length ≤ 400 := hRm.dials
  simp only [Wv.val, Wv.cells] at HD
  have HA := Lib.hid hA.world
  have HNN := Lib.hid hN
  have HBg := Lib.hid (fun W (h : WorldC W v A) => begin_any A v W hRm h)
  have HRm := Lib.hid hRm
  clear hA hRm hN
  simp only [Wv.val, Wv.cells, Ad.v] at HBg ⊢
  have hb := below2 w (.cells #[.slice v.p.za A.plan.zones.length v.p.zc, .slice v.p.fa A.plan.fates.length v.p.fc, .int .i64 A.plan.ticks, .slice v.p.da A.plan.drops.length v.p.dc, .int .i64 A.clock, .slice v.sa A.socks.length v.sc, .slice v.ia A.dials.length v.ic, .slice v.la A.looks.length v.lc, .int .i64 A.dropped, .slice v.ma A.marks.length v.mc] 32) (.cells #[.slice none 0 0, .slice none 0 0, .int .i64 0, .slice none 0 0, .int .i64 0, .slice none 0 0, .slice none 0 0, .slice none 0 0, .int .i64 0, .slice none 0 0] 32)
  have hL := laid2 w (.cells #[.slice v.p.za A.plan.zones.length v.p.zc, .slice v.p.fa A.plan.fates.length v.p.fc, .int .i64 A.plan.ticks, .slice v.p.da A.plan.drops.length v.p.dc, .int .i64 A.clock, .slice v.sa A.socks.length v.sc, .slice v.ia A.dials.length v.ic, .slice v.la A.looks.length v.lc, .int .i64 A.dropped, .slice v.ma A.marks.length v.mc] 32) (.cells #[.slice none 0 0, .slice none 0 0, .int .i64 0, .slice none 0 0, .int .i64 0, .slice none 0 0, .slice none 0 0, .slice none 0 0, .int .i64 0, .slice none 0 0] 32)
  go_enter Tryz.func18, Tryz.ntmps18
  go_upto_region 1 with fail
  obtain ⟨w1, hw1⟩ : ∃ X, X = ((w.alloc (.cells #[.slice v.p.za A.plan.zones.length v.p.zc, .slice v.p.fa A.plan.fates.length v.p.fc, .int .i64 A.plan.ticks, .slice v.p.da A.plan.drops.length v.p.dc, .int .i64 A.clock, .slice v.sa A.socks.length v.sc, .slice v.ia A.dials.length v.ic, .slice v.la A.looks.length v.lc, .int .i64 A.dropped, .slice v.ma A.marks.length v.mc] 32)).alloc (.cells #[.slice none 0 0, .slice none 0 0, .int .i64 0, .slice none 0 0, .int .i64 0, .slice none 0 0, .slice none 0 0, .slice none 0 0, .int .i64 0, .slice none 0 0] 32)) := ⟨_, rfl⟩
  have hsz1 : w1.heap.size = w.heap.size + 2 := by rw [hw1]; simp
  rw [← hw1] at hb hL ⊢
  clear hw1
  generalize hG1 : w.heap.size + 1 = r1 at hL ⊢
  have HB := Lib.hid hb
  have HX := Lib.hid (HBg.out w1 (HA.out.below hb))
  have Hres := Lib.hid (hL.2)
  obtain ⟨⟨x0, x1, x2, x3, x4, x5, x6, x7, x8, x9⟩, _⟩ := boxes10 (hL.1)
  have hld := loadW2 (v := v) (A := A) (hL.1)
  clear hL hb HBg
  go_wp2_with fail
  with_reducible refine HX.out.mono ?_
  rintro e w2 ⟨u, g, rfl, hE, hb2⟩
  clear x0 x1 x2 x3 x4 x5 x6 x7 x8 x9 HX hld
  obtain ⟨l1, hl1⟩ : ∃ X, X = w1.heap.size := ⟨_, rfl⟩
  rw [← hl1] at hE hsz1
  have HE := Lib.hid hE
  have hl1w : l1 ≤ w2.heap.size := by have := hb2.size; omega
  replace Hres := Lib.hid ((hb2.block _ (lt_of_block Hres.out)).trans Hres.out)
  have hr1 : r1 < l1 := by omega
  have hlr1 : w.heap.size ≤ r1 := by omega
  replace HB := Lib.hid (HB.out.trans (hb2.mono HB.out.size))
  clear hE hb2 hl1
  clear hG1
  obtain ⟨⟨x0, x1, x2, x3, x4, x5, x6, x7, x8, x9⟩, f0, f1, f2, f3, f4, f5, f6, f7, f8, f9⟩ := boxes10 HE.out.box
  have HX := Lib.hid (HD.out u w2 HE.out.dials.row)
  have hld := loadS (v := u) (A := A) HE.out.box
  go_wp2_with fail
  with_reducible refine HX.out.mono ?_
  rintro e w3 ⟨rfl, hb⟩
  clear x0 x1 x2 x3 x4 x5 x6 x7 x8 x9 f0 f1 f2 f3 f4 f5 f6 f7 f8 f9
  clear hld HX HD
  replace HE := Lib.hid (HE.out.below hb)
  replace Hres := Lib.hid ((hb.block _ (lt_of_block Hres.out)).trans Hres.out)
  replace HB := Lib.hid (HB.out.trans (hb.mono HB.out.size))
  replace hl1w : l1 ≤ w3.heap.size := Nat.le_trans hl1w hb.size
  clear hb
  cases hof : dialOf A y with
  | none =>
    obtain rfl : ix = -1 := by rw [hix]; exact dial_none hof
    obtain rfl : B = A := by rw [hB]; unfold cutP; rw [hof]
    clear hix hB hof
    have hcz := HE.out.box
    obtain ⟨⟨y0, y1, y2, y3, y4, y5, y6, y7, y8, y9⟩, g0, g1, g2, g3, g4, g5, g6, g7, g8, g9⟩ := boxes10 Hres.out
    have hld := loadW2 (v := u) (A := B) HE.out.box
    obtain ⟨⟨x0, x1, x2, x3, x4, x5, x6, x7, x8, x9⟩, f0, f1, f2, f3, f4, f5, f6, f7, f8, f9⟩ := boxes10 HE.out.box
    clear hcz
    go_wp2_with fail
    have hz2 := set10_at Hres.out (.slice u.p.za B.plan.zones.length u.p.zc) (.slice u.p.fa B.plan.fates.length u.p.fc) (.int .i64 B.plan.ticks) (.slice u.p.da B.plan.drops.length u.p.dc) (.int .i64 B.clock) (.slice u.sa B.socks.length u.sc) (.slice u.ia B.dials.length u.ic) (.slice u.la B.looks.length u.lc) (.int .i64 B.dropped) (.slice u.ma B.marks.length u.mc)
    have hb2 := set10_below HB.out hlr1 (.slice u.p.za B.plan.zones.length u.p.zc) (.slice u.p.fa B.plan.fates.length u.p.fc) (.int .i64 B.plan.ticks) (.slice u.p.da B.plan.drops.length u.p.dc) (.int .i64 B.clock) (.slice u.sa B.socks.length u.sc) (.slice u.ia B.dials.length u.ic) (.slice u.la B.looks.length u.lc) (.int .i64 B.dropped) (.slice u.ma B.marks.length u.mc)
    refine bodyPost_ret (res_cell rfl _ _ _ r1 rfl _ (loadW2 (v := u) (A := B) hz2)) rfl ?_
    exact ⟨u, by first | rfl | exact HFin.out, HE.out.ret hr1 (fun b hb => by have := HNN.out b hb; omega) (.slice u.p.za B.plan.zones.length u.p.zc) (.slice u.p.fa B.plan.fates.length u.p.fc) (.int .i64 B.plan.ticks) (.slice u.p.da B.plan.drops.length u.p.dc) (.int .i64 B.clock) (.slice u.sa B.socks.length u.sc) (.slice u.ia B.dials.length u.ic) (.slice u.la B.looks.length u.lc) (.int .i64 B.dropped) (.slice u.ma B.marks.length u.mc), hb2⟩
  | some d =>
    obtain ⟨hx, hby, hi, hlt⟩ := dial_some hof
    obtain rfl : ix = (dialIx A y : Nat) := by rw [hix]; exact hi
    have hBv : B = if d.over = true then A else { A with dials := A.dials.set (dialIx A y) { d with cut := true } } := by rw [hB]; unfold cutP; rw [hof]
    clear hix hB hi hof hby
    generalize dialIx A y = k at *
    have hkI : (k : Int) < (A.dials.length : Int) := by omega
    have hk0 : (0 : Int) ≤ (k : Int) := by omega
    have hkd : decide ((0 : Int) ≤ (k : Int)) = true := by simp
    obtain ⟨gd, o, hia, hgd, hne, hE3, hc3, hf3⟩ := HE.out.pokeDial (i := 12) (y := { d with cut := true }) (u := .bool true) hx (by decide) rfl
    obtain ⟨gd2, o2, hia2, _, hat⟩ := HE.out.dials.row.2.2.2 (by omega)
    rw [hia] at hia2
    injection hia2 with hia2
    injection hia2 with e1 e2 e3
    subst e1 e2
    obtain ⟨d0, d1, d2, d3, d4, d5, d6, d7, d8, d9, d10, d11, d12, d13⟩ := DK.cells hat hx
    have HE3 := Lib.hid hE3
    have Hc3 := Lib.hid hc3
    have Hf3 := Lib.hid hf3
    clear hE3 hc3 hf3 hat hx
    have hgr : gd ≠ r1 := by omega
    obtain ⟨⟨x0, x1, x2, x3, x4, x5, x6, x7, x8, x9⟩, f0, f1, f2, f3, f4, f5, f6, f7, f8, f9⟩ := boxes10 HE.out.box
    rw [hia] at x6
    cases hov : d.over with
    | true =>
      rw [hov] at d13
      obtain rfl : B = A := by rw [hBv, if_pos hov]
      clear hBv hov
      go_upto_region 5 with fail
      clear d0 d1 d2 d3 d4 d5 d6 d7 d8 d9 d10 d11 d12 d13 hia
      clear x0 x1 x2 x3 x4 x5 x6 x7 x8 x9 f0 f1 f2 f3 f4 f5 f6 f7 f8 f9
      have hcz := HE.out.box
      obtain ⟨⟨y0, y1, y2, y3, y4, y5, y6, y7, y8, y9⟩, g0, g1, g2, g3, g4, g5, g6, g7, g8, g9⟩ := boxes10 Hres.out
      have hld := loadW2 (v := u) (A := B) HE.out.box
      obtain ⟨⟨x0, x1, x2, x3, x4, x5, x6, x7, x8, x9⟩, f0, f1, f2, f3, f4, f5, f6, f7, f8, f9⟩ := boxes10 HE.out.box
      clear hcz
      go_wp2_with fail
      have hz2 := set10_at Hres.out (.slice u.p.za B.plan.zones.length u.p.zc) (.slice u.p.fa B.plan.fates.length u.p.fc) (.int .i64 B.plan.ticks) (.slice u.p.da B.plan.drops.length u.p.dc) (.int .i64 B.clock) (.slice u.sa B.socks.length u.sc) (.slice u.ia B.dials.length u.ic) (.slice u.la B.looks.length u.lc) (.int .i64 B.dropped) (.slice u.ma B.marks.length u.mc)
      have hb2 := set10_below HB.out hlr1 (.slice u.p.za B.plan.zones.length u.p.zc) (.slice u.p.fa B.plan.fates.length u.p.fc) (.int .i64 B.plan.ticks) (.slice u.p.da B.plan.drops.length u.p.dc) (.int .i64 B.clock) (.slice u.sa B.socks.length u.sc) (.slice u.ia B.dials.length u.ic) (.slice u.la B.looks.length u.lc) (.int .i64 B.dropped) (.slice u.ma B.marks.length u.mc)
      refine bodyPost_ret (res_cell rfl _ _ _ r1 rfl _ (loadW2 (v := u) (A := B) hz2)) rfl ?_
      exact ⟨u, by first | rfl | exact HFin.out, HE.out.ret hr1 (fun b hb => by have := HNN.out b hb; omega) (.slice u.p.za B.plan.zones.length u.p.zc) (.slice u.p.fa B.plan.fates.length u.p.fc) (.int .i64 B.plan.ticks) (.slice u.p.da B.plan.drops.length u.p.dc) (.int .i64 B.clock) (.slice u.sa B.socks.length u.sc) (.slice u.ia B.dials.length u.ic) (.slice u.la B.looks.length u.lc) (.int .i64 B.dropped) (.slice u.ma B.marks.length u.mc), hb2⟩
    | false =>
      rw [hov] at d13
      have hBE := Lib.hid (show B = { A with dials := A.dials.set k { d with cut := true } } from by rw [hBv, if_neg (by rw [hov]; simp)])
      clear hBv
      have Hov := Lib.hid hov
      clear hov
      have f12 := Hf3.out
      go_upto_region 5 with fail
      clear d0 d1 d2 d3 d4 d5 d6 d7 d8 d9 d10 d11 d12 d13 f12 hia
      clear x0 x1 x2 x3 x4 x5 x6 x7 x8 x9 f0 f1 f2 f3 f4 f5 f6 f7 f8 f9
      have hE9 := HE3.out
      have hb9 := HB.out.setCell (p := ⟨gd, o + k * 14 + 12, none⟩) (by have := HE.out.hg; have := hlr1; dsimp only; omega) (.bool true)
      have hsres := (Below.heap_setCell w3 ⟨gd, o + k * 14 + 12, none⟩ (.bool true) r1 (by have := HE.out.hg; dsimp only; omega)).trans Hres.out
      obtain ⟨q1, hq1⟩ : ∃ X, X = w3.setCell ⟨gd, o + k * 14 + 12, none⟩ (.bool true) := ⟨_, rfl⟩
      have hs9 : l1 ≤ (w3.setCell ⟨gd, o + k * 14 + 12, none⟩ (.bool true)).heap.size := by simpa using hl1w
      rw [← hq1] at hE9 hb9 hs9 hsres ⊢
      clear hq1
      replace HE := Lib.hid hE9
      replace HB := Lib.hid hb9
      replace hl1w := hs9
      replace Hres := Lib.hid hsres
      clear hE9 hb9 hs9 hsres
      clear HE3 Hc3 Hf3
      rw [← hBE.out] at HE
      have hcz := HE.out.box
      obtain ⟨⟨y0, y1, y2, y3, y4, y5, y6, y7, y8, y9⟩, g0, g1, g2, g3, g4, g5, g6, g7, g8, g9⟩ := boxes10 Hres.out
      have hld := loadW2 (v := u) (A := B) HE.out.box
      obtain ⟨⟨x0, x1, x2, x3, x4, x5, x6, x7, x8, x9⟩, f0, f1, f2, f3, f4, f5, f6, f7, f8, f9⟩ := boxes10 HE.out.box
      clear hcz
      go_wp2_with fail
      have hz2 := set10_at Hres.out (.slice u.p.za B.plan.zones.length u.p.zc) (.slice u.p.fa B.plan.fates.length u.p.fc) (.int .i64 B.plan.ticks) (.slice u.p.da B.plan.drops.length u.p.dc) (.int .i64 B.clock) (.slice u.sa B.socks.length u.sc) (.slice u.ia B.dials.length u.ic) (.slice u.la B.looks.length u.lc) (.int .i64 B.dropped) (.slice u.ma B.marks.length u.mc)
      have hb2 := set10_below HB.out hlr1 (.slice u.p.za B.plan.zones.length u.p.zc) (.slice u.p.fa B.plan.fates.length u.p.fc) (.int .i64 B.plan.ticks) (.slice u.p.da B.plan.drops.length u.p.dc) (.int .i64 B.clock) (.slice u.sa B.socks.length u.sc) (.slice u.ia B.dials.length u.ic) (.slice u.la B.looks.length u.lc) (.int .i64 B.dropped) (.slice u.ma B.marks.length u.mc)
      refine bodyPost_ret (res_cell rfl _ _ _ r1 rfl _ (loadW2 (v := u) (A := B) hz2)) rfl ?_
      exact ⟨u, by first | rfl | exact HFin.out, HE.out.ret hr1 (fun b hb => by have := HNN.out b hb; omega) (.slice u.p.za B.plan.zones.length u.p.zc) (.slice u.p.fa B.plan.fates.length u.p.fc) (.int .i64 B.plan.ticks) (.slice u.p.da B.plan.drops.length u.p.dc) (.int .i64 B.clock) (.slice u.sa B.socks.length u.sc) (.slice u.ia B.dials.length u.ic) (.slice u.la B.looks.length u.lc) (.int .i64 B.dropped) (.slice u.ma B.marks.length u.mc), hb2⟩

end Go.Proofs.YtciohjgcndgiaaaGreatDoor
