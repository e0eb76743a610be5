/- Shuttings, by the landed world. -/
import Derived.Test.YtciohjgcndgiaaaEvt
import Derived.Test.YtciohjgcndgiaaaSockA
import Derived.Test.YtciohjgcndgiaaaSpecs
set_option linter.unusedSimpArgs false
set_option linter.unusedVariables false
namespace Go.Proofs.Ytciohjgcndgiaaa
open Go.RowKit Go.Proofs.Ytciohjgcndgiaaa.Kind

set_option maxHeartbeats 8000000 in
set_option maxRecDepth 1000000 in
theorem shut_spec : ShutSpec := by
  intro N A v n w B r hN hRm hA hB hr
  have hS := hRm.socks
  have hMk := hRm.marks
  have HA := Lib.hid hA.world
  have HNN := Lib.hid hN
  have HBg := Lib.hid (fun W (h : WorldC W v A) => begin_any A v W hRm h)
  have HRm := Lib.hid hRm
  clear hA hRm hN
  simp only [Wv.val, Wv.cells, Ad.v] at HBg ⊢
  have hb := below2 w (.cells #[.slice v.p.za A.plan.zones.length v.p.zc, .slice v.p.fa A.plan.fates.length v.p.fc, .int .i64 A.plan.ticks, .slice v.p.da A.plan.drops.length v.p.dc, .int .i64 A.clock, .slice v.sa A.socks.length v.sc, .slice v.ia A.dials.length v.ic, .slice v.la A.looks.length v.lc, .int .i64 A.dropped, .slice v.ma A.marks.length v.mc] 33) (.cells #[.slice none 0 0, .slice none 0 0, .int .i64 0, .slice none 0 0, .int .i64 0, .slice none 0 0, .slice none 0 0, .slice none 0 0, .int .i64 0, .slice none 0 0] 33)
  have hL := laid2 w (.cells #[.slice v.p.za A.plan.zones.length v.p.zc, .slice v.p.fa A.plan.fates.length v.p.fc, .int .i64 A.plan.ticks, .slice v.p.da A.plan.drops.length v.p.dc, .int .i64 A.clock, .slice v.sa A.socks.length v.sc, .slice v.ia A.dials.length v.ic, .slice v.la A.looks.length v.lc, .int .i64 A.dropped, .slice v.ma A.marks.length v.mc] 33) (.cells #[.slice none 0 0, .slice none 0 0, .int .i64 0, .slice none 0 0, .int .i64 0, .slice none 0 0, .slice none 0 0, .slice none 0 0, .int .i64 0, .slice none 0 0] 33)
  go_enter Try.func15, Try.ntmps15
  go_upto_region 1 with fail
  obtain ⟨w1, hw1⟩ : ∃ X, X = ((w.alloc (.cells #[.slice v.p.za A.plan.zones.length v.p.zc, .slice v.p.fa A.plan.fates.length v.p.fc, .int .i64 A.plan.ticks, .slice v.p.da A.plan.drops.length v.p.dc, .int .i64 A.clock, .slice v.sa A.socks.length v.sc, .slice v.ia A.dials.length v.ic, .slice v.la A.looks.length v.lc, .int .i64 A.dropped, .slice v.ma A.marks.length v.mc] 33)).alloc (.cells #[.slice none 0 0, .slice none 0 0, .int .i64 0, .slice none 0 0, .int .i64 0, .slice none 0 0, .slice none 0 0, .slice none 0 0, .int .i64 0, .slice none 0 0] 33)) := ⟨_, rfl⟩
  have hsz1 : w1.heap.size = w.heap.size + 2 := by rw [hw1]; simp
  rw [← hw1] at hb hL ⊢
  clear hw1
  generalize hG1 : w.heap.size + 1 = r1 at hL ⊢
  have HB := Lib.hid hb
  have HX := Lib.hid (HBg.out w1 (HA.out.below hb))
  have Hres := Lib.hid (hL.2)
  obtain ⟨⟨x0, x1, x2, x3, x4, x5, x6, x7, x8, x9⟩, _⟩ := boxes10 (hL.1)
  have hld := loadW2 (v := v) (A := A) (hL.1)
  clear hL hb HBg
  go_wp2_with fail
  with_reducible refine HX.out.mono ?_
  rintro e w2 ⟨u, g, rfl, hE, hb2⟩
  clear x0 x1 x2 x3 x4 x5 x6 x7 x8 x9 HX hld
  obtain ⟨l1, hl1⟩ : ∃ X, X = w1.heap.size := ⟨_, rfl⟩
  rw [← hl1] at hE hsz1
  have HE := Lib.hid hE
  have hl1w : l1 ≤ w2.heap.size := by have := hb2.size; omega
  replace Hres := Lib.hid ((hb2.block _ (lt_of_block Hres.out)).trans Hres.out)
  have hr1 : r1 < l1 := by omega
  have hlr1 : w.heap.size ≤ r1 := by omega
  replace HB := Lib.hid (HB.out.trans (hb2.mono HB.out.size))
  clear hE hb2 hl1
  clear hG1
  go_upto_region 2 with fail
  have HSB := Lib.hid (show ∀ W : World, Below w2.heap.size w2 W → ((W.cell? ⟨g, 0, none⟩ = some (.slice u.p.za A.plan.zones.length u.p.zc) ∧ W.cell? ⟨g, 1, none⟩ = some (.slice u.p.fa A.plan.fates.length u.p.fc) ∧ W.cell? ⟨g, 2, none⟩ = some (.int .i64 A.plan.ticks) ∧ W.cell? ⟨g, 3, none⟩ = some (.slice u.p.da A.plan.drops.length u.p.dc) ∧ W.cell? ⟨g, 4, none⟩ = some (.int .i64 A.clock) ∧ W.cell? ⟨g, 5, none⟩ = some (.slice u.sa A.socks.length u.sc) ∧ W.cell? ⟨g, 6, none⟩ = some (.slice u.ia A.dials.length u.ic) ∧ W.cell? ⟨g, 7, none⟩ = some (.slice u.la A.looks.length u.lc) ∧ W.cell? ⟨g, 8, none⟩ = some (.int .i64 A.dropped) ∧ W.cell? ⟨g, 9, none⟩ = some (.slice u.ma A.marks.length u.mc)) ∧ True) ∧ Below w2.heap.size w2 W from fun W h => ⟨⟨(boxes10 ((h.block _ (lt_of_block HE.out.box)).trans HE.out.box)).1, trivial⟩, h⟩)
  by_cases hn : n < 0 ∨ (A.socks.length : Int) ≤ n
  · have hnn : B = A ∧ r = 80 := by
      by_cases h0 : n < 0
      · exact ⟨by rw [hB]; unfold shutP; rw [if_pos h0], by rw [hr]; unfold shutE; rw [if_pos h0]⟩
      · have hno : A.socks[n.toNat]? = none := List.getElem?_eq_none (by omega)
        exact ⟨by rw [hB]; unfold shutP; rw [if_neg h0, hno], by rw [hr]; unfold shutE; rw [if_neg h0, hno]⟩
    obtain ⟨rfl, rfl⟩ := hnn
    have HC := Lib.hid (fun W (h : Below w2.heap.size w2 W) => sshut_none B.socks B.marks n B.clock u.sa u.ma u.sc u.mc W (by omega) (by omega) hn (HE.out.below h).socks.1 (HE.out.below h).marks.1)
    clear hB hr hn hS hMk
    go_region_held3 (fun W => ((W.cell? ⟨g, 0, none⟩ = some (.slice u.p.za B.plan.zones.length u.p.zc) ∧ W.cell? ⟨g, 1, none⟩ = some (.slice u.p.fa B.plan.fates.length u.p.fc) ∧ W.cell? ⟨g, 2, none⟩ = some (.int .i64 B.plan.ticks) ∧ W.cell? ⟨g, 3, none⟩ = some (.slice u.p.da B.plan.drops.length u.p.dc) ∧ W.cell? ⟨g, 4, none⟩ = some (.int .i64 B.clock) ∧ W.cell? ⟨g, 5, none⟩ = some (.slice u.sa B.socks.length u.sc) ∧ W.cell? ⟨g, 6, none⟩ = some (.slice u.ia B.dials.length u.ic) ∧ W.cell? ⟨g, 7, none⟩ = some (.slice u.la B.looks.length u.lc) ∧ W.cell? ⟨g, 8, none⟩ = some (.int .i64 B.dropped) ∧ W.cell? ⟨g, 9, none⟩ = some (.slice u.ma B.marks.length u.mc)) ∧ True) ∧ Below w2.heap.size w2 W)
      (first | assumption | exact HSB.out _ (Below.refl _ _) | exact HSB.out _ (kept_call (by assumption) hbC) | exact HSB.out _ (Below.refl _ _).drew)
      (first
        | (go_at_call 34; (with_reducible refine (HC.out _ (kept_self (by assumption))).mono ?_); rintro e wC ⟨rfl, hbC⟩))
    have hb : Below w2.heap.size w2 wC := by first | exact kept_self (by assumption) | exact kept_call (by assumption) hbC | exact kept_call (by assumption) (Below.refl _ wC)
    clear HSB HC
    replace HE := Lib.hid (HE.out.below hb)
    replace Hres := Lib.hid ((hb.block _ (lt_of_block Hres.out)).trans Hres.out)
    replace HB := Lib.hid (HB.out.trans (hb.mono HB.out.size))
    replace hl1w : l1 ≤ wC.heap.size := Nat.le_trans hl1w hb.size
    clear hb
    have hcz := HE.out.box
    obtain ⟨⟨y0, y1, y2, y3, y4, y5, y6, y7, y8, y9⟩, g0, g1, g2, g3, g4, g5, g6, g7, g8, g9⟩ := boxes10 Hres.out
    have hld := loadW2 (v := u) (A := B) HE.out.box
    obtain ⟨⟨x0, x1, x2, x3, x4, x5, x6, x7, x8, x9⟩, f0, f1, f2, f3, f4, f5, f6, f7, f8, f9⟩ := boxes10 HE.out.box
    clear hcz
    go_wp2_with fail
    have hz2 := set10_at Hres.out (.slice u.p.za B.plan.zones.length u.p.zc) (.slice u.p.fa B.plan.fates.length u.p.fc) (.int .i64 B.plan.ticks) (.slice u.p.da B.plan.drops.length u.p.dc) (.int .i64 B.clock) (.slice u.sa B.socks.length u.sc) (.slice u.ia B.dials.length u.ic) (.slice u.la B.looks.length u.lc) (.int .i64 B.dropped) (.slice u.ma B.marks.length u.mc)
    have hb2 := set10_below HB.out hlr1 (.slice u.p.za B.plan.zones.length u.p.zc) (.slice u.p.fa B.plan.fates.length u.p.fc) (.int .i64 B.plan.ticks) (.slice u.p.da B.plan.drops.length u.p.dc) (.int .i64 B.clock) (.slice u.sa B.socks.length u.sc) (.slice u.ia B.dials.length u.ic) (.slice u.la B.looks.length u.lc) (.int .i64 B.dropped) (.slice u.ma B.marks.length u.mc)
    refine bodyPost_ret (res_cell_tmp rfl _ _ _ r1 rfl _ (loadW2 (v := u) (A := B) hz2)) rfl ?_
    exact ⟨u, by first | rfl | exact HFin.out, HE.out.ret hr1 (fun b hb => by have := HNN.out b hb; omega) (.slice u.p.za B.plan.zones.length u.p.zc) (.slice u.p.fa B.plan.fates.length u.p.fc) (.int .i64 B.plan.ticks) (.slice u.p.da B.plan.drops.length u.p.dc) (.int .i64 B.clock) (.slice u.sa B.socks.length u.sc) (.slice u.ia B.dials.length u.ic) (.slice u.la B.looks.length u.lc) (.int .i64 B.dropped) (.slice u.ma B.marks.length u.mc), hb2⟩
  · obtain ⟨k, rfl⟩ : ∃ k : Nat, n = k := ⟨n.toNat, by omega⟩
    obtain ⟨s, hs⟩ : ∃ s, A.socks[k]? = some s := ⟨_, List.getElem?_eq_getElem (by omega)⟩
    have h0 : ¬ (k : Int) < 0 := by omega
    obtain ⟨S2, hS2⟩ : ∃ S, S = A.socks.set k { s with shut := wrap64 (s.shut + 1) } := ⟨_, rfl⟩
    obtain ⟨K2, hK2⟩ : ∃ S, S = A.marks ++ [(⟨true, k, A.clock⟩ : Nk)] := ⟨_, rfl⟩
    have hsn : A.socks[((k : Int)).toNat]? = some s := by rw [show ((k : Int)).toNat = k by omega]; exact hs
    have hBE := Lib.hid (show B = { A with socks := S2, marks := K2 } from by rw [hB, hS2, hK2]; unfold shutP; rw [if_neg h0, hsn]; simp)
    obtain rfl : r = 0 := by rw [hr]; unfold shutE; rw [if_neg h0, hsn]
    have HC := Lib.hid (fun W (h : Below w2.heap.size w2 W) => sshut_spec A.socks A.marks k s A.clock u.sa u.ma u.sc u.mc W S2 K2 (by omega) (by omega) hs hS2 hK2 (HE.out.below h).socks.1 (HE.out.below h).marks.1)
    clear hB hr hn hS hMk hs hsn hS2 hK2 h0
    go_region_held3 (fun W => ((W.cell? ⟨g, 0, none⟩ = some (.slice u.p.za A.plan.zones.length u.p.zc) ∧ W.cell? ⟨g, 1, none⟩ = some (.slice u.p.fa A.plan.fates.length u.p.fc) ∧ W.cell? ⟨g, 2, none⟩ = some (.int .i64 A.plan.ticks) ∧ W.cell? ⟨g, 3, none⟩ = some (.slice u.p.da A.plan.drops.length u.p.dc) ∧ W.cell? ⟨g, 4, none⟩ = some (.int .i64 A.clock) ∧ W.cell? ⟨g, 5, none⟩ = some (.slice u.sa A.socks.length u.sc) ∧ W.cell? ⟨g, 6, none⟩ = some (.slice u.ia A.dials.length u.ic) ∧ W.cell? ⟨g, 7, none⟩ = some (.slice u.la A.looks.length u.lc) ∧ W.cell? ⟨g, 8, none⟩ = some (.int .i64 A.dropped) ∧ W.cell? ⟨g, 9, none⟩ = some (.slice u.ma A.marks.length u.mc)) ∧ True) ∧ Below w2.heap.size w2 W)
      (first | assumption | exact HSB.out _ (Below.refl _ _) | exact HSB.out _ (kept_call (by assumption) hbC) | exact HSB.out _ (Below.refl _ _).drew)
      (first
        | (go_at_call 34; (with_reducible refine (HC.out _ (kept_self (by assumption))).mono ?_); rintro e wC ⟨a1, c1, a2, c2, rfl, hl1, hl2, hbC⟩))
    have hb : Below w2.heap.size w2 wC := by first | exact kept_self (by assumption) | exact kept_call (by assumption) hbC | exact kept_call (by assumption) (Below.refl _ wC)
    have HO1 := Lib.hid (HE.out.off (W' := wC) hl1w (show SK.Loose wC w2.heap.size a1 c1 S2 from by first | exact hl1 | exact hl1.mono (kept_self (by assumption)).size))
    have HO2 := Lib.hid (HE.out.off (W' := wC) hl1w (show NK.Loose wC w2.heap.size a2 c2 K2 from by first | exact hl2 | exact hl2.mono (kept_self (by assumption)).size))
    clear HSB HC hl1 hl2
    replace HE := Lib.hid (HE.out.below hb)
    replace Hres := Lib.hid ((hb.block _ (lt_of_block Hres.out)).trans Hres.out)
    replace HB := Lib.hid (HB.out.trans (hb.mono HB.out.size))
    replace hl1w : l1 ≤ wC.heap.size := Nat.le_trans hl1w hb.size
    clear hb
    obtain ⟨⟨x0, x1, x2, x3, x4, x5, x6, x7, x8, x9⟩, f0, f1, f2, f3, f4, f5, f6, f7, f8, f9⟩ := boxes10 HE.out.box
    go_upto_region 6 with fail
    clear x0 x1 x2 x3 x4 x5 x6 x7 x8 x9 f0 f1 f2 f3 f4 f5 f6 f7 f8 f9
    have hgr1 : r1 ≠ g := by have := HE.out.hg; omega
    have hgb := HE.out.hg
    have hgw : w.heap.size ≤ g := by omega
    have hE9 := (HE.out.putSocks HO1.out).putMarks (HO2.out.set (p := ⟨g, 5, none⟩) (.inr (.inl rfl)) (.slice a1 S2.length c1))
    have hb9 := (HB.out.setCell (p := ⟨g, 5, none⟩) hgw (.slice a1 S2.length c1)).setCell (p := ⟨g, 9, none⟩) hgw (.slice a2 K2.length c2)
    have hs9 := (Below.heap_setCell _ ⟨g, 9, none⟩ (.slice a2 K2.length c2) r1 hgr1).trans ((Below.heap_setCell wC ⟨g, 5, none⟩ (.slice a1 S2.length c1) r1 hgr1).trans Hres.out)
    first
      | (obtain ⟨qz, hqz⟩ : ∃ X, X = ((wC.setCell ⟨g, 5, none⟩ (.slice a1 S2.length c1)).setCell ⟨g, 9, none⟩ (.slice a2 K2.length c2)).drew := ⟨_, rfl⟩; rw [← hqz]; replace hE9 := hE9.below (Below.refl _ _).drew; replace hb9 := hb9.drew; have hs9 : ((wC.setCell ⟨g, 5, none⟩ (.slice a1 S2.length c1)).setCell ⟨g, 9, none⟩ (.slice a2 K2.length c2)).drew.heap[r1]? = some (.cells #[.slice none 0 0, .slice none 0 0, .int .i64 0, .slice none 0 0, .int .i64 0, .slice none 0 0, .slice none 0 0, .slice none 0 0, .int .i64 0, .slice none 0 0] 33 (0, 0)) := hs9; rw [← hqz] at hE9 hb9 hs9; clear hqz)
      | (obtain ⟨qz, hqz⟩ : ∃ X, X = ((wC.setCell ⟨g, 5, none⟩ (.slice a1 S2.length c1)).setCell ⟨g, 9, none⟩ (.slice a2 K2.length c2)) := ⟨_, rfl⟩; rw [← hqz] at hE9 hb9 hs9 ⊢; clear hqz)
    replace HE := Lib.hid hE9
    replace HB := Lib.hid hb9
    replace Hres := Lib.hid hs9
    clear hE9 hb9 hs9 HO1 HO2 hgr1 hgb hgw
    rw [← hBE.out] at HE
    have hcz := HE.out.box
    obtain ⟨⟨y0, y1, y2, y3, y4, y5, y6, y7, y8, y9⟩, g0, g1, g2, g3, g4, g5, g6, g7, g8, g9⟩ := boxes10 Hres.out
    have hld := loadW2 (v := (⟨u.p, a1, c1, u.ia, u.ic, u.la, u.lc, a2, c2⟩ : Wv)) (A := B) HE.out.box
    obtain ⟨⟨x0, x1, x2, x3, x4, x5, x6, x7, x8, x9⟩, f0, f1, f2, f3, f4, f5, f6, f7, f8, f9⟩ := boxes10 HE.out.box
    clear hcz
    go_wp2_with fail
    have hz2 := set10_at Hres.out (.slice u.p.za B.plan.zones.length u.p.zc) (.slice u.p.fa B.plan.fates.length u.p.fc) (.int .i64 B.plan.ticks) (.slice u.p.da B.plan.drops.length u.p.dc) (.int .i64 B.clock) (.slice a1 B.socks.length c1) (.slice u.ia B.dials.length u.ic) (.slice u.la B.looks.length u.lc) (.int .i64 B.dropped) (.slice a2 B.marks.length c2)
    have hb2 := set10_below HB.out hlr1 (.slice u.p.za B.plan.zones.length u.p.zc) (.slice u.p.fa B.plan.fates.length u.p.fc) (.int .i64 B.plan.ticks) (.slice u.p.da B.plan.drops.length u.p.dc) (.int .i64 B.clock) (.slice a1 B.socks.length c1) (.slice u.ia B.dials.length u.ic) (.slice u.la B.looks.length u.lc) (.int .i64 B.dropped) (.slice a2 B.marks.length c2)
    refine bodyPost_ret (res_cell_tmp rfl _ _ _ r1 rfl _ (loadW2 (v := (⟨u.p, a1, c1, u.ia, u.ic, u.la, u.lc, a2, c2⟩ : Wv)) (A := B) hz2)) rfl ?_
    exact ⟨(⟨u.p, a1, c1, u.ia, u.ic, u.la, u.lc, a2, c2⟩ : Wv), by first | rfl | exact HFin.out, HE.out.ret hr1 (fun b hb => by have := HNN.out b hb; omega) (.slice u.p.za B.plan.zones.length u.p.zc) (.slice u.p.fa B.plan.fates.length u.p.fc) (.int .i64 B.plan.ticks) (.slice u.p.da B.plan.drops.length u.p.dc) (.int .i64 B.clock) (.slice a1 B.socks.length c1) (.slice u.ia B.dials.length u.ic) (.slice u.la B.looks.length u.lc) (.int .i64 B.dropped) (.slice a2 B.marks.length c2), hb2⟩

end Go.Proofs.Ytciohjgcndgiaaa
