/- Lookups asked, by the landed world. -/
import Derived.Test.YtciohjgcndgiaaaGreatDoorEvt
import Derived.Test.YtciohjgcndgiaaaGreatDoorMethL
import Derived.Test.YtciohjgcndgiaaaGreatDoorSpecsA
set_option linter.unusedSimpArgs false
set_option linter.unusedVariables false
namespace Go.Proofs.YtciohjgcndgiaaaGreatDoor
open Go.RowKit Go.Proofs.YtciohjgcndgiaaaGreatDoor.Kind

set_option maxHeartbeats 8000000 in
set_option maxRecDepth 1000000 in
theorem ask_spec : AskSpec := by
  intro N A v y s w B r hN hRm hs hA hB hr
  obtain ⟨ix, hix⟩ : ∃ X, X = idxI (fun d : Lo => decide (d.by_ = y)) A.looks := ⟨_, rfl⟩
  have HD := Lib.hid (fun v W (h : LK.RowC W v.la v.lc A.looks) => hix ▸ lookOf_any A v y W h)
  obtain ⟨nc, hnc⟩ : ∃ X : Int, X = ((A.looks.countP (fun d : Lo => decide (d.name = s)) : Nat) : Int) := ⟨_, rfl⟩
  have HT := Lib.hid (fun v W (h : LK.RowC W v.la v.lc A.looks) => hnc ▸ looksOf_any A v s W h)
  have hdl : A.looks.length ≤ 400 := hRm.looks
  simp only [Wv.val, Wv.cells] at HD HT
  have HA := Lib.hid hA.world
  have HNN := Lib.hid hN
  have HBg := Lib.hid (fun W (h : WorldC W v A) => begin_any A v W hRm h)
  have HRm := Lib.hid hRm
  clear hA hRm hN
  simp only [Wv.val, Wv.cells, Ad.v] at HBg ⊢
  have hb := below2 w (.cells #[.slice v.p.za A.plan.zones.length v.p.zc, .slice v.p.fa A.plan.fates.length v.p.fc, .int .i64 A.plan.ticks, .slice v.p.da A.plan.drops.length v.p.dc, .int .i64 A.clock, .slice v.sa A.socks.length v.sc, .slice v.ia A.dials.length v.ic, .slice v.la A.looks.length v.lc, .int .i64 A.dropped, .slice v.ma A.marks.length v.mc] 32) (.cells #[.slice none 0 0, .slice none 0 0, .int .i64 0, .slice none 0 0, .int .i64 0, .slice none 0 0, .slice none 0 0, .slice none 0 0, .int .i64 0, .slice none 0 0] 32)
  have hL := laid2 w (.cells #[.slice v.p.za A.plan.zones.length v.p.zc, .slice v.p.fa A.plan.fates.length v.p.fc, .int .i64 A.plan.ticks, .slice v.p.da A.plan.drops.length v.p.dc, .int .i64 A.clock, .slice v.sa A.socks.length v.sc, .slice v.ia A.dials.length v.ic, .slice v.la A.looks.length v.lc, .int .i64 A.dropped, .slice v.ma A.marks.length v.mc] 32) (.cells #[.slice none 0 0, .slice none 0 0, .int .i64 0, .slice none 0 0, .int .i64 0, .slice none 0 0, .slice none 0 0, .slice none 0 0, .int .i64 0, .slice none 0 0] 32)
  go_enter Tryz.func7, Tryz.ntmps7
  go_upto_region 1 with fail
  obtain ⟨w1, hw1⟩ : ∃ X, X = ((w.alloc (.cells #[.slice v.p.za A.plan.zones.length v.p.zc, .slice v.p.fa A.plan.fates.length v.p.fc, .int .i64 A.plan.ticks, .slice v.p.da A.plan.drops.length v.p.dc, .int .i64 A.clock, .slice v.sa A.socks.length v.sc, .slice v.ia A.dials.length v.ic, .slice v.la A.looks.length v.lc, .int .i64 A.dropped, .slice v.ma A.marks.length v.mc] 32)).alloc (.cells #[.slice none 0 0, .slice none 0 0, .int .i64 0, .slice none 0 0, .int .i64 0, .slice none 0 0, .slice none 0 0, .slice none 0 0, .int .i64 0, .slice none 0 0] 32)) := ⟨_, rfl⟩
  have hsz1 : w1.heap.size = w.heap.size + 2 := by rw [hw1]; simp
  rw [← hw1] at hb hL ⊢
  clear hw1
  generalize hG1 : w.heap.size + 1 = r1 at hL ⊢
  have HB := Lib.hid hb
  have HX := Lib.hid (HBg.out w1 (HA.out.below hb))
  have Hres := Lib.hid (hL.2)
  obtain ⟨⟨x0, x1, x2, x3, x4, x5, x6, x7, x8, x9⟩, _⟩ := boxes10 (hL.1)
  have hld := loadW2 (v := v) (A := A) (hL.1)
  clear hL hb HBg
  go_wp2_with fail
  with_reducible refine HX.out.mono ?_
  rintro e w2 ⟨u, g, rfl, hE, hb2⟩
  clear x0 x1 x2 x3 x4 x5 x6 x7 x8 x9 HX hld
  obtain ⟨l1, hl1⟩ : ∃ X, X = w1.heap.size := ⟨_, rfl⟩
  rw [← hl1] at hE hsz1
  have HE := Lib.hid hE
  have hl1w : l1 ≤ w2.heap.size := by have := hb2.size; omega
  replace Hres := Lib.hid ((hb2.block _ (lt_of_block Hres.out)).trans Hres.out)
  have hr1 : r1 < l1 := by omega
  have hlr1 : w.heap.size ≤ r1 := by omega
  replace HB := Lib.hid (HB.out.trans (hb2.mono HB.out.size))
  clear hE hb2 hl1
  clear hG1
  obtain ⟨⟨x0, x1, x2, x3, x4, x5, x6, x7, x8, x9⟩, f0, f1, f2, f3, f4, f5, f6, f7, f8, f9⟩ := boxes10 HE.out.box
  have HX := Lib.hid (HD.out u w2 HE.out.looks.row)
  have hld := loadS (v := u) (A := A) HE.out.box
  go_wp2_with fail
  with_reducible refine HX.out.mono ?_
  rintro e w3 ⟨rfl, hb⟩
  clear x0 x1 x2 x3 x4 x5 x6 x7 x8 x9 f0 f1 f2 f3 f4 f5 f6 f7 f8 f9
  clear hld HX HD
  replace HE := Lib.hid (HE.out.below hb)
  replace Hres := Lib.hid ((hb.block _ (lt_of_block Hres.out)).trans Hres.out)
  replace HB := Lib.hid (HB.out.trans (hb.mono HB.out.size))
  replace hl1w : l1 ≤ w3.heap.size := Nat.le_trans hl1w hb.size
  clear hb
  cases hof : lookOf A y with
  | some d =>
    obtain ⟨hx, hby, hi, hlt⟩ := look_some hof
    have hi2 : ix = (lookIx A y : Nat) := by rw [hix]; exact hi
    have hde : decide ((0 : Int) ≤ ix) = true := by rw [hi2]; simp
    obtain rfl : r = 101 := by rw [hr]; unfold askE; rw [hof]; rfl
    obtain rfl : B = A := by rw [hB]; unfold askP askE; rw [hof]; rfl
    have hix0 : (0 : Int) ≤ ix := by omega
    clear hB hr hof hx hby hi hlt hi2 hix hnc
    have hcz := HE.out.box
    obtain ⟨⟨y0, y1, y2, y3, y4, y5, y6, y7, y8, y9⟩, g0, g1, g2, g3, g4, g5, g6, g7, g8, g9⟩ := boxes10 Hres.out
    have hld := loadW2 (v := u) (A := B) HE.out.box
    obtain ⟨⟨x0, x1, x2, x3, x4, x5, x6, x7, x8, x9⟩, f0, f1, f2, f3, f4, f5, f6, f7, f8, f9⟩ := boxes10 HE.out.box
    clear hcz
    go_wp2_with fail
    have hz2 := set10_at Hres.out (.slice u.p.za B.plan.zones.length u.p.zc) (.slice u.p.fa B.plan.fates.length u.p.fc) (.int .i64 B.plan.ticks) (.slice u.p.da B.plan.drops.length u.p.dc) (.int .i64 B.clock) (.slice u.sa B.socks.length u.sc) (.slice u.ia B.dials.length u.ic) (.slice u.la B.looks.length u.lc) (.int .i64 B.dropped) (.slice u.ma B.marks.length u.mc)
    have hb2 := set10_below HB.out hlr1 (.slice u.p.za B.plan.zones.length u.p.zc) (.slice u.p.fa B.plan.fates.length u.p.fc) (.int .i64 B.plan.ticks) (.slice u.p.da B.plan.drops.length u.p.dc) (.int .i64 B.clock) (.slice u.sa B.socks.length u.sc) (.slice u.ia B.dials.length u.ic) (.slice u.la B.looks.length u.lc) (.int .i64 B.dropped) (.slice u.ma B.marks.length u.mc)
    refine bodyPost_ret (res_cell_tmp rfl _ _ _ r1 rfl _ (loadW2 (v := u) (A := B) hz2)) rfl ?_
    exact ⟨u, by first | rfl | exact HFin.out, HE.out.ret hr1 (fun b hb => by have := HNN.out b hb; omega) (.slice u.p.za B.plan.zones.length u.p.zc) (.slice u.p.fa B.plan.fates.length u.p.fc) (.int .i64 B.plan.ticks) (.slice u.p.da B.plan.drops.length u.p.dc) (.int .i64 B.clock) (.slice u.sa B.socks.length u.sc) (.slice u.ia B.dials.length u.ic) (.slice u.la B.looks.length u.lc) (.int .i64 B.dropped) (.slice u.ma B.marks.length u.mc), hb2⟩
  | none =>
    obtain rfl : ix = -1 := by rw [hix]; exact look_none hof
    obtain rfl : r = 0 := by rw [hr]; unfold askE; rw [hof]; rfl
    obtain ⟨L, hL⟩ : ∃ L, L = A.looks ++ [(⟨y, s, nc, false⟩ : Lo)] := ⟨_, rfl⟩
    have hBE := Lib.hid (show B = { A with looks := L } from by rw [hB, hL, hnc]; unfold askP askE; rw [hof]; rfl)
    have HL := Lib.hid hL
    clear hB hr hof hix hnc hL
    go_upto_region 4 with fail
    have HT2 := Lib.hid (fun W (h : Below w3.heap.size w3 W) => HT.out u W (HE.out.below h).looks.row)
    clear HT
    obtain ⟨⟨x0, x1, x2, x3, x4, x5, x6, x7, x8, x9⟩, f0, f1, f2, f3, f4, f5, f6, f7, f8, f9⟩ := boxes10 HE.out.box
    have hld := loadS (v := u) (A := A) HE.out.box
    clear f0 f1 f2 f3 f4 f5 f6 f7 f8 f9
    go_region_law (first
      | (go_simp; go_at_call 22; (with_reducible refine (HT2.out _ (by first | exact Below.refl _ _ | exact (Below.refl _ _).drew | exact (Below.refl _ _).drew.drew)).mono ?_); rintro e wC ⟨rfl, hbC⟩; have hB3 : Below w3.heap.size w3 wC := ⟨hbC.os, hbC.tape, hbC.output, hbC.size, hbC.block⟩; have HB3 := Lib.hid hB3; obtain ⟨⟨-, -, -, -, -, -, -, p7, -, -⟩, -⟩ := boxes10 (HE.out.below hB3).box; have hn7 : (wC.alloc (.cells #[.int .i64 y, .string s, .int .i64 nc, .bool false] 77)).cell? ⟨g, 7, none⟩ = some (.slice u.la A.looks.length u.lc) := ((below1 wC (.cells #[.int .i64 y, .string s, .int .i64 nc, .bool false] 77)).cell (p := ⟨g, 7, none⟩) (lt_of_block (HE.out.below hB3).box)).trans p7; clear hbC hB3)
      | (obtain ⟨wd, hwd⟩ : ∃ X, X = (wC.alloc (.cells #[.int .i64 y, .string s, .int .i64 nc, .bool false] 77)).drew := ⟨_, rfl⟩; rw [← hwd]; have hbd : Below w3.heap.size w3 wd := hwd ▸ (HB3.out.alloc HB3.out.size (.cells #[.int .i64 y, .string s, .int .i64 nc, .bool false] 77)).drew; have hRw : LK.RowC wd (some ⟨wC.heap.size, 0, none⟩) 1 [(⟨y, s, nc, false⟩ : Lo)] := hwd ▸ (rowC_at (K := LK) wC 77 [(⟨y, s, nc, false⟩ : Lo)] _ wC.heap.size 1 rfl rfl rfl (by simp)); have HEd := HE.out.below hbd; have hle := Nat.le_trans hl1w hbd.size; clear hwd; refine LK.step_append_loose rfl _ _ rfl l1 u.la A.looks.length u.lc rfl A.looks rfl HEd.looks (some ⟨wC.heap.size, 0, none⟩) 1 1 rfl [(⟨y, s, nc, false⟩ : Lo)] rfl (by simp) hRw (by simp; omega) hle L HL.out ?_; intro a9 c9 wz hD9 hg9 hw9; obtain ⟨hE9, hbx⟩ := HEd.moreLooks hle hD9 hg9 hw9; obtain ⟨⟨-, -, -, -, -, -, -, z7, -, -⟩, -, -, -, -, -, -, -, j7, -, -⟩ := boxes10 (hbx.trans HEd.box))
      | (obtain ⟨wd, hwd⟩ : ∃ X, X = wC.alloc (.cells #[.int .i64 y, .string s, .int .i64 nc, .bool false] 77) := ⟨_, rfl⟩; rw [← hwd]; have hbd : Below w3.heap.size w3 wd := hwd ▸ HB3.out.alloc HB3.out.size (.cells #[.int .i64 y, .string s, .int .i64 nc, .bool false] 77); have hRw : LK.RowC wd (some ⟨wC.heap.size, 0, none⟩) 1 [(⟨y, s, nc, false⟩ : Lo)] := hwd ▸ (rowC_at (K := LK) wC 77 [(⟨y, s, nc, false⟩ : Lo)] _ wC.heap.size 1 rfl rfl rfl (by simp)); have HEd := HE.out.below hbd; have hle := Nat.le_trans hl1w hbd.size; clear hwd; refine LK.step_append_loose rfl _ _ rfl l1 u.la A.looks.length u.lc rfl A.looks rfl HEd.looks (some ⟨wC.heap.size, 0, none⟩) 1 1 rfl [(⟨y, s, nc, false⟩ : Lo)] rfl (by simp) hRw (by simp; omega) hle L HL.out ?_; intro a9 c9 wz hD9 hg9 hw9; obtain ⟨hE9, hbx⟩ := HEd.moreLooks hle hD9 hg9 hw9; obtain ⟨⟨-, -, -, -, -, -, -, z7, -, -⟩, -, -, -, -, -, -, -, j7, -, -⟩ := boxes10 (hbx.trans HEd.box)))
    all_goals
      obtain ⟨row9, hgr9, hrow9⟩ := hg9
      have hbl : Below l1 wd wz := (Below.refl l1 wd).grown hgr9 hle (fun k e => (hrow9 k e).1)
      have hw1 : w.heap.size ≤ l1 := by omega
      have hb9 := (HB.out.trans ((hbd.mono HB.out.size).trans (hbl.mono hw1))).setCell (p := ⟨g, 7, none⟩) (by have := HE.out.hg; dsimp only; omega) (.slice a9 L.length c9)
      have hsres := (Below.heap_setCell wz ⟨g, 7, none⟩ (.slice a9 L.length c9) r1 (by have := HE.out.hg; dsimp only; omega)).trans ((hbl.block r1 hr1).trans ((hbd.block _ (lt_of_block Hres.out)).trans Hres.out))
      clear z7 j7 p7 hn7 hld hD9 hw9 hgr9 hrow9 hbx hle HEd hRw hbd hbl x0 x1 x2 x3 x4 x5 x6 x7 x8 x9
      obtain ⟨qz, hqz⟩ : ∃ X, X = wz.setCell ⟨g, 7, none⟩ (.slice a9 L.length c9) := ⟨_, rfl⟩
      rw [← hqz] at hE9 hb9 hsres ⊢
      clear hqz
      replace HE := Lib.hid hE9
      replace HB := Lib.hid hb9
      replace Hres := Lib.hid hsres
      clear hE9 hb9 hsres
      rw [← hBE.out] at HE
      have hcz := HE.out.box
      obtain ⟨⟨y0, y1, y2, y3, y4, y5, y6, y7, y8, y9⟩, g0, g1, g2, g3, g4, g5, g6, g7, g8, g9⟩ := boxes10 Hres.out
      have hld := loadW2 (v := (⟨u.p, u.sa, u.sc, u.ia, u.ic, a9, c9, u.ma, u.mc⟩ : Wv)) (A := B) HE.out.box
      obtain ⟨⟨x0, x1, x2, x3, x4, x5, x6, x7, x8, x9⟩, f0, f1, f2, f3, f4, f5, f6, f7, f8, f9⟩ := boxes10 HE.out.box
      clear hcz
      go_wp2_with fail
      have hz2 := set10_at Hres.out (.slice u.p.za B.plan.zones.length u.p.zc) (.slice u.p.fa B.plan.fates.length u.p.fc) (.int .i64 B.plan.ticks) (.slice u.p.da B.plan.drops.length u.p.dc) (.int .i64 B.clock) (.slice u.sa B.socks.length u.sc) (.slice u.ia B.dials.length u.ic) (.slice a9 B.looks.length c9) (.int .i64 B.dropped) (.slice u.ma B.marks.length u.mc)
      have hb2 := set10_below HB.out hlr1 (.slice u.p.za B.plan.zones.length u.p.zc) (.slice u.p.fa B.plan.fates.length u.p.fc) (.int .i64 B.plan.ticks) (.slice u.p.da B.plan.drops.length u.p.dc) (.int .i64 B.clock) (.slice u.sa B.socks.length u.sc) (.slice u.ia B.dials.length u.ic) (.slice a9 B.looks.length c9) (.int .i64 B.dropped) (.slice u.ma B.marks.length u.mc)
      refine bodyPost_ret (res_cell_tmp rfl _ _ _ r1 rfl _ (loadW2 (v := (⟨u.p, u.sa, u.sc, u.ia, u.ic, a9, c9, u.ma, u.mc⟩ : Wv)) (A := B) hz2)) rfl ?_
      exact ⟨(⟨u.p, u.sa, u.sc, u.ia, u.ic, a9, c9, u.ma, u.mc⟩ : Wv), by first | rfl | exact HFin.out, HE.out.ret hr1 (fun b hb => by have := HNN.out b hb; omega) (.slice u.p.za B.plan.zones.length u.p.zc) (.slice u.p.fa B.plan.fates.length u.p.fc) (.int .i64 B.plan.ticks) (.slice u.p.da B.plan.drops.length u.p.dc) (.int .i64 B.clock) (.slice u.sa B.socks.length u.sc) (.slice u.ia B.dials.length u.ic) (.slice a9 B.looks.length c9) (.int .i64 B.dropped) (.slice u.ma B.marks.length u.mc), hb2⟩

end Go.Proofs.YtciohjgcndgiaaaGreatDoor
