/- Worlds with the same words are the same by the document's own answer. -/
import Derived.Test.YtciohjgcndgiaaaPlanSame
set_option linter.unusedSimpArgs false
set_option linter.unusedVariables false
namespace Go.Proofs.Ytciohjgcndgiaaa
open Go.RowKit Go.Proofs.Ytciohjgcndgiaaa.Kind

set_option maxHeartbeats 8000000 in
set_option maxRecDepth 1000000 in
theorem plan_same (P : Pl) (v u : Pv) (w : World) (hF : FatesFit P) (hP : PlanC w v P) (hU : PlanC w u P) :
    Calls Try.prog 35 #[v.val P, u.val P] w fun e w' => e = .returned (.bool true) ∧ Below w.heap.size w w' := by
  have HP := Lib.hid hP
  have HU := Lib.hid hU
  have HF := Lib.hid hF
  clear hP hU hF
  have HIn := Lib.hid (fun w h1 h2 => plan_in P v u w HF.out h1 h2)
  obtain ⟨za, zc, fa, fc, da, dc⟩ := v
  obtain ⟨zb, zd, fb, fd, db, dd⟩ := u
  simp only [Pv.val] at HIn ⊢
  go_enter Try.func35, Try.ntmps35
  go_upto_region 1 with fail
  have hb := below2 w (.cells #[.slice za P.zones.length zc, .slice fa P.fates.length fc, .int .i64 P.ticks, .slice da P.drops.length dc] 26) (.cells #[.slice zb P.zones.length zd, .slice fb P.fates.length fd, .int .i64 P.ticks, .slice db P.drops.length dd] 26)
  have hL := laid2 w (.cells #[.slice za P.zones.length zc, .slice fa P.fates.length fc, .int .i64 P.ticks, .slice da P.drops.length dc] 26) (.cells #[.slice zb P.zones.length zd, .slice fb P.fates.length fd, .int .i64 P.ticks, .slice db P.drops.length dd] 26)
  obtain ⟨w1, hw1⟩ : ∃ w1, w1 = (w.alloc (.cells #[.slice za P.zones.length zc, .slice fa P.fates.length fc, .int .i64 P.ticks, .slice da P.drops.length dc] 26)).alloc (.cells #[.slice zb P.zones.length zd, .slice fb P.fates.length fd, .int .i64 P.ticks, .slice db P.drops.length dd] 26) := ⟨_, rfl⟩
  rw [← hw1] at hb hL ⊢
  clear hw1
  generalize hG1 : w.heap.size + 1 = G1 at *
  have hW : ∀ W : World, Below w1.heap.size w1 W → ((W.cell? ⟨w.heap.size, 0, none⟩ = some (.slice za P.zones.length zc) ∧ W.cell? ⟨w.heap.size, 1, none⟩ = some (.slice fa P.fates.length fc) ∧ W.cell? ⟨w.heap.size, 2, none⟩ = some (.int .i64 P.ticks) ∧ W.cell? ⟨w.heap.size, 3, none⟩ = some (.slice da P.drops.length dc)) ∧ (W.cell? ⟨G1, 0, none⟩ = some (.slice zb P.zones.length zd) ∧ W.cell? ⟨G1, 1, none⟩ = some (.slice fb P.fates.length fd) ∧ W.cell? ⟨G1, 2, none⟩ = some (.int .i64 P.ticks) ∧ W.cell? ⟨G1, 3, none⟩ = some (.slice db P.drops.length dd))) ∧ PlanC W ⟨za, zc, fa, fc, da, dc⟩ P ∧ PlanC W ⟨zb, zd, fb, fd, db, dd⟩ P := fun W h =>
    ⟨⟨(box4 ((h.block _ (lt_of_block hL.1)).trans hL.1)).1, (box4 ((h.block _ (lt_of_block hL.2)).trans hL.2)).1⟩, HP.out.below (hb.trans (h.mono hb.size)), HU.out.below (hb.trans (h.mono hb.size))⟩
  have HW := Lib.hid hW
  have HB1 := Lib.hid hb
  clear hb hL hW HP HU
  obtain ⟨⟨⟨x0, x1, x2, x3⟩, z0, z1, z2, z3⟩, hp, hq⟩ := HW.out w1 (Below.refl _ _)
  have HN := Lib.hid (same_ints P.drops da db dc dd w1 hp.drops hq.drops)
  clear hp hq
  go_wp2_with fail
  with_reducible refine HN.out.mono ?_
  rintro e w2 ⟨rfl, hb⟩
  have HB2 := Lib.hid hb
  clear hb x0 x1 x2 x3 z0 z1 z2 z3 HN
  obtain ⟨⟨⟨x0, x1, x2, x3⟩, z0, z1, z2, z3⟩, hp, hq⟩ := HW.out w2 HB2.out
  have HX := Lib.hid (HIn.out w2 hp hq)
  clear hp hq HIn
  go_wp2_with fail
  with_reducible refine HX.out.mono ?_
  rintro e w3 ⟨rfl, hb⟩
  have HB3 := Lib.hid (HB1.out.trans ((HB2.out.trans (hb.mono HB2.out.size)).mono HB1.out.size))
  clear hb HX
  go_wp2_with fail
  go_ret
  exact ⟨rfl, HB3.out⟩

set_option maxHeartbeats 16000000 in
set_option maxRecDepth 1000000 in
theorem world_same (A : Wo) (v u : Wv) (w : World) (hF : FatesFit A.plan) (hA : WorldC w v A) (hU : WorldC w u A) :
    Calls Try.prog 16 #[v.val A, u.val A] w fun e w' => e = .returned (.bool true) ∧ Below w.heap.size w w' := by
  have HA := Lib.hid hA
  have HU := Lib.hid hU
  have HF := Lib.hid hF
  clear hA hU hF
  have HPl := Lib.hid (fun w h1 h2 => plan_same A.plan v.p u.p w HF.out h1 h2)
  have HSk := Lib.hid (fun w h1 h2 => same_socks A.socks v.sa u.sa v.sc u.sc w h1 h2)
  have HMk := Lib.hid (fun w h1 h2 => same_marks A.marks v.ma u.ma v.mc u.mc w h1 h2)
  have HDi := Lib.hid (fun w h1 h2 => same_dials A.dials v.ia u.ia v.ic u.ic w h1 h2)
  have HLk := Lib.hid (fun w h1 h2 => same_looks A.looks v.la u.la v.lc u.lc w h1 h2)
  simp only [Wv.val, Wv.cells, Pv.val] at HPl ⊢
  go_enter Try.func16, Try.ntmps16
  go_upto_region 1 with fail
  have hb := below2 w (.cells #[.slice v.p.za A.plan.zones.length v.p.zc, .slice v.p.fa A.plan.fates.length v.p.fc, .int .i64 A.plan.ticks, .slice v.p.da A.plan.drops.length v.p.dc, .int .i64 A.clock, .slice v.sa A.socks.length v.sc, .slice v.ia A.dials.length v.ic, .slice v.la A.looks.length v.lc, .int .i64 A.dropped, .slice v.ma A.marks.length v.mc] 33) (.cells #[.slice u.p.za A.plan.zones.length u.p.zc, .slice u.p.fa A.plan.fates.length u.p.fc, .int .i64 A.plan.ticks, .slice u.p.da A.plan.drops.length u.p.dc, .int .i64 A.clock, .slice u.sa A.socks.length u.sc, .slice u.ia A.dials.length u.ic, .slice u.la A.looks.length u.lc, .int .i64 A.dropped, .slice u.ma A.marks.length u.mc] 33)
  have hL := laid2 w (.cells #[.slice v.p.za A.plan.zones.length v.p.zc, .slice v.p.fa A.plan.fates.length v.p.fc, .int .i64 A.plan.ticks, .slice v.p.da A.plan.drops.length v.p.dc, .int .i64 A.clock, .slice v.sa A.socks.length v.sc, .slice v.ia A.dials.length v.ic, .slice v.la A.looks.length v.lc, .int .i64 A.dropped, .slice v.ma A.marks.length v.mc] 33) (.cells #[.slice u.p.za A.plan.zones.length u.p.zc, .slice u.p.fa A.plan.fates.length u.p.fc, .int .i64 A.plan.ticks, .slice u.p.da A.plan.drops.length u.p.dc, .int .i64 A.clock, .slice u.sa A.socks.length u.sc, .slice u.ia A.dials.length u.ic, .slice u.la A.looks.length u.lc, .int .i64 A.dropped, .slice u.ma A.marks.length u.mc] 33)
  obtain ⟨w1, hw1⟩ : ∃ w1, w1 = (w.alloc (.cells #[.slice v.p.za A.plan.zones.length v.p.zc, .slice v.p.fa A.plan.fates.length v.p.fc, .int .i64 A.plan.ticks, .slice v.p.da A.plan.drops.length v.p.dc, .int .i64 A.clock, .slice v.sa A.socks.length v.sc, .slice v.ia A.dials.length v.ic, .slice v.la A.looks.length v.lc, .int .i64 A.dropped, .slice v.ma A.marks.length v.mc] 33)).alloc (.cells #[.slice u.p.za A.plan.zones.length u.p.zc, .slice u.p.fa A.plan.fates.length u.p.fc, .int .i64 A.plan.ticks, .slice u.p.da A.plan.drops.length u.p.dc, .int .i64 A.clock, .slice u.sa A.socks.length u.sc, .slice u.ia A.dials.length u.ic, .slice u.la A.looks.length u.lc, .int .i64 A.dropped, .slice u.ma A.marks.length u.mc] 33) := ⟨_, rfl⟩
  rw [← hw1] at hb hL ⊢
  clear hw1
  generalize hG1 : w.heap.size + 1 = G1 at *
  have hW : ∀ W : World, Below w1.heap.size w1 W → ((W.cell? ⟨w.heap.size, 0, none⟩ = some (.slice v.p.za A.plan.zones.length v.p.zc) ∧ W.cell? ⟨w.heap.size, 1, none⟩ = some (.slice v.p.fa A.plan.fates.length v.p.fc) ∧ W.cell? ⟨w.heap.size, 2, none⟩ = some (.int .i64 A.plan.ticks) ∧ W.cell? ⟨w.heap.size, 3, none⟩ = some (.slice v.p.da A.plan.drops.length v.p.dc) ∧ W.cell? ⟨w.heap.size, 4, none⟩ = some (.int .i64 A.clock) ∧ W.cell? ⟨w.heap.size, 5, none⟩ = some (.slice v.sa A.socks.length v.sc) ∧ W.cell? ⟨w.heap.size, 6, none⟩ = some (.slice v.ia A.dials.length v.ic) ∧ W.cell? ⟨w.heap.size, 7, none⟩ = some (.slice v.la A.looks.length v.lc) ∧ W.cell? ⟨w.heap.size, 8, none⟩ = some (.int .i64 A.dropped) ∧ W.cell? ⟨w.heap.size, 9, none⟩ = some (.slice v.ma A.marks.length v.mc)) ∧ (W.cell? ⟨G1, 0, none⟩ = some (.slice u.p.za A.plan.zones.length u.p.zc) ∧ W.cell? ⟨G1, 1, none⟩ = some (.slice u.p.fa A.plan.fates.length u.p.fc) ∧ W.cell? ⟨G1, 2, none⟩ = some (.int .i64 A.plan.ticks) ∧ W.cell? ⟨G1, 3, none⟩ = some (.slice u.p.da A.plan.drops.length u.p.dc) ∧ W.cell? ⟨G1, 4, none⟩ = some (.int .i64 A.clock) ∧ W.cell? ⟨G1, 5, none⟩ = some (.slice u.sa A.socks.length u.sc) ∧ W.cell? ⟨G1, 6, none⟩ = some (.slice u.ia A.dials.length u.ic) ∧ W.cell? ⟨G1, 7, none⟩ = some (.slice u.la A.looks.length u.lc) ∧ W.cell? ⟨G1, 8, none⟩ = some (.int .i64 A.dropped) ∧ W.cell? ⟨G1, 9, none⟩ = some (.slice u.ma A.marks.length u.mc))) ∧ WorldC W v A ∧ WorldC W u A := fun W h =>
    ⟨⟨boxW hL.1 h, boxW hL.2 h⟩, HA.out.below (hb.trans (h.mono hb.size)), HU.out.below (hb.trans (h.mono hb.size))⟩
  have HW := Lib.hid hW
  have HB1 := Lib.hid hb
  have HBB := Lib.hid (Below.refl w1.heap.size w1)
  clear hb hL hW HA HU
  obtain ⟨⟨⟨x0, x1, x2, x3, x4, x5, x6, x7, x8, x9⟩, z0, z1, z2, z3, z4, z5, z6, z7, z8, z9⟩, hp, hq⟩ := HW.out w1 HBB.out
  have HX := Lib.hid (HPl.out w1 hp.plan hq.plan)
  clear hp hq
  go_wp2_with fail
  with_reducible refine HX.out.mono ?_
  rintro e w2 ⟨rfl, hb⟩
  have HBB := Lib.hid (HBB.out.trans (hb.mono HBB.out.size))
  clear hb x0 x1 x2 x3 x4 x5 x6 x7 x8 x9 z0 z1 z2 z3 z4 z5 z6 z7 z8 z9 HX
  obtain ⟨⟨⟨x0, x1, x2, x3, x4, x5, x6, x7, x8, x9⟩, z0, z1, z2, z3, z4, z5, z6, z7, z8, z9⟩, hp, hq⟩ := HW.out w2 HBB.out
  have HX := Lib.hid (HSk.out w2 hp.socks hq.socks)
  clear hp hq
  go_wp2_with fail
  with_reducible refine HX.out.mono ?_
  rintro e w3 ⟨rfl, hb⟩
  have HBB := Lib.hid (HBB.out.trans (hb.mono HBB.out.size))
  clear hb x0 x1 x2 x3 x4 x5 x6 x7 x8 x9 z0 z1 z2 z3 z4 z5 z6 z7 z8 z9 HX
  obtain ⟨⟨⟨x0, x1, x2, x3, x4, x5, x6, x7, x8, x9⟩, z0, z1, z2, z3, z4, z5, z6, z7, z8, z9⟩, hp, hq⟩ := HW.out w3 HBB.out
  have HX := Lib.hid (HMk.out w3 hp.marks hq.marks)
  clear hp hq
  go_wp2_with fail
  with_reducible refine HX.out.mono ?_
  rintro e w4 ⟨rfl, hb⟩
  have HBB := Lib.hid (HBB.out.trans (hb.mono HBB.out.size))
  clear hb x0 x1 x2 x3 x4 x5 x6 x7 x8 x9 z0 z1 z2 z3 z4 z5 z6 z7 z8 z9 HX
  obtain ⟨⟨⟨x0, x1, x2, x3, x4, x5, x6, x7, x8, x9⟩, z0, z1, z2, z3, z4, z5, z6, z7, z8, z9⟩, hp, hq⟩ := HW.out w4 HBB.out
  have HX := Lib.hid (HDi.out w4 hp.dials hq.dials)
  clear hp hq
  go_wp2_with fail
  with_reducible refine HX.out.mono ?_
  rintro e w5 ⟨rfl, hb⟩
  have HBB := Lib.hid (HBB.out.trans (hb.mono HBB.out.size))
  clear hb x0 x1 x2 x3 x4 x5 x6 x7 x8 x9 z0 z1 z2 z3 z4 z5 z6 z7 z8 z9 HX
  obtain ⟨⟨⟨x0, x1, x2, x3, x4, x5, x6, x7, x8, x9⟩, z0, z1, z2, z3, z4, z5, z6, z7, z8, z9⟩, hp, hq⟩ := HW.out w5 HBB.out
  have HX := Lib.hid (HLk.out w5 hp.looks hq.looks)
  clear hp hq
  go_wp2_with fail
  with_reducible refine HX.out.mono ?_
  rintro e w6 ⟨rfl, hb⟩
  have HBB := Lib.hid (HBB.out.trans (hb.mono HBB.out.size))
  clear hb x0 x1 x2 x3 x4 x5 x6 x7 x8 x9 z0 z1 z2 z3 z4 z5 z6 z7 z8 z9 HX
  obtain ⟨⟨⟨x0, x1, x2, x3, x4, x5, x6, x7, x8, x9⟩, z0, z1, z2, z3, z4, z5, z6, z7, z8, z9⟩, hp, hq⟩ := HW.out w6 HBB.out
  have HBF := Lib.hid (HB1.out.trans (HBB.out.mono HB1.out.size))
  clear hp hq
  go_wp2_with fail
  go_ret
  exact ⟨rfl, HBF.out⟩

end Go.Proofs.Ytciohjgcndgiaaa
