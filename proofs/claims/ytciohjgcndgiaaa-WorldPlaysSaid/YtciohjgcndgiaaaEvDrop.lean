/- Drops, by the landed world. -/
import Derived.Test.YtciohjgcndgiaaaEvt
import Derived.Test.YtciohjgcndgiaaaSockA
import Derived.Test.YtciohjgcndgiaaaSpecs
set_option linter.unusedSimpArgs false
set_option linter.unusedVariables false
namespace Go.Proofs.Ytciohjgcndgiaaa
open Go.RowKit Go.Proofs.Ytciohjgcndgiaaa.Kind

set_option maxHeartbeats 8000000 in
set_option maxRecDepth 1000000 in
theorem drop_spec : DropSpec := by
  intro N A v w B r hN hRm hA hB hr
  have hS := hRm.socks
  have hdm := hRm.mem.drops
  have HA := Lib.hid hA.world
  have HNN := Lib.hid hN
  have HBg := Lib.hid (fun W (h : WorldC W v A) => begin_any A v W hRm h)
  have HRm := Lib.hid hRm
  clear hA hRm hN
  simp only [Wv.val, Wv.cells, Ad.v] at HBg ⊢
  have hb := below2 w (.cells #[.slice v.p.za A.plan.zones.length v.p.zc, .slice v.p.fa A.plan.fates.length v.p.fc, .int .i64 A.plan.ticks, .slice v.p.da A.plan.drops.length v.p.dc, .int .i64 A.clock, .slice v.sa A.socks.length v.sc, .slice v.ia A.dials.length v.ic, .slice v.la A.looks.length v.lc, .int .i64 A.dropped, .slice v.ma A.marks.length v.mc] 33) (.cells #[.slice none 0 0, .slice none 0 0, .int .i64 0, .slice none 0 0, .int .i64 0, .slice none 0 0, .slice none 0 0, .slice none 0 0, .int .i64 0, .slice none 0 0] 33)
  have hL := laid2 w (.cells #[.slice v.p.za A.plan.zones.length v.p.zc, .slice v.p.fa A.plan.fates.length v.p.fc, .int .i64 A.plan.ticks, .slice v.p.da A.plan.drops.length v.p.dc, .int .i64 A.clock, .slice v.sa A.socks.length v.sc, .slice v.ia A.dials.length v.ic, .slice v.la A.looks.length v.lc, .int .i64 A.dropped, .slice v.ma A.marks.length v.mc] 33) (.cells #[.slice none 0 0, .slice none 0 0, .int .i64 0, .slice none 0 0, .int .i64 0, .slice none 0 0, .slice none 0 0, .slice none 0 0, .int .i64 0, .slice none 0 0] 33)
  go_enter Try.func9, Try.ntmps9
  go_upto_region 1 with fail
  obtain ⟨w1, hw1⟩ : ∃ X, X = ((w.alloc (.cells #[.slice v.p.za A.plan.zones.length v.p.zc, .slice v.p.fa A.plan.fates.length v.p.fc, .int .i64 A.plan.ticks, .slice v.p.da A.plan.drops.length v.p.dc, .int .i64 A.clock, .slice v.sa A.socks.length v.sc, .slice v.ia A.dials.length v.ic, .slice v.la A.looks.length v.lc, .int .i64 A.dropped, .slice v.ma A.marks.length v.mc] 33)).alloc (.cells #[.slice none 0 0, .slice none 0 0, .int .i64 0, .slice none 0 0, .int .i64 0, .slice none 0 0, .slice none 0 0, .slice none 0 0, .int .i64 0, .slice none 0 0] 33)) := ⟨_, rfl⟩
  have hsz1 : w1.heap.size = w.heap.size + 2 := by rw [hw1]; simp
  rw [← hw1] at hb hL ⊢
  clear hw1
  generalize hG1 : w.heap.size + 1 = r1 at hL ⊢
  have HB := Lib.hid hb
  have HX := Lib.hid (HBg.out w1 (HA.out.below hb))
  have Hres := Lib.hid (hL.2)
  obtain ⟨⟨x0, x1, x2, x3, x4, x5, x6, x7, x8, x9⟩, _⟩ := boxes10 (hL.1)
  have hld := loadW2 (v := v) (A := A) (hL.1)
  clear hL hb HBg
  go_wp2_with fail
  with_reducible refine HX.out.mono ?_
  rintro e w2 ⟨u, g, rfl, hE, hb2⟩
  clear x0 x1 x2 x3 x4 x5 x6 x7 x8 x9 HX hld
  obtain ⟨l1, hl1⟩ : ∃ X, X = w1.heap.size := ⟨_, rfl⟩
  rw [← hl1] at hE hsz1
  have HE := Lib.hid hE
  have hl1w : l1 ≤ w2.heap.size := by have := hb2.size; omega
  replace Hres := Lib.hid ((hb2.block _ (lt_of_block Hres.out)).trans Hres.out)
  have hr1 : r1 < l1 := by omega
  have hlr1 : w.heap.size ≤ r1 := by omega
  replace HB := Lib.hid (HB.out.trans (hb2.mono HB.out.size))
  clear hE hb2 hl1
  clear hG1
  go_upto_region 2 with fail
  by_cases h : A.dropped < 0 ∨ (A.plan.drops.length : Int) ≤ A.dropped
  · have hNn : dropN A = none := by
      unfold dropN
      split
      · rfl
      · exact List.getElem?_eq_none (by omega)
    obtain rfl : B = A := by rw [hB]; unfold dropP; rw [hNn]
    obtain rfl : r = 70 := by rw [hr]; unfold dropE; rw [hNn]
    clear hB hr hNn
    rcases h with h | h
    · have hd0 : decide (B.dropped < 0) = true := by simp [h]
      obtain ⟨⟨x0, x1, x2, x3, x4, x5, x6, x7, x8, x9⟩, f0, f1, f2, f3, f4, f5, f6, f7, f8, f9⟩ := boxes10 HE.out.box
      go_quiet (fail)
      clear x0 x1 x2 x3 x4 x5 x6 x7 x8 x9 f0 f1 f2 f3 f4 f5 f6 f7 f8 f9
      first | (obtain ⟨q1, hq1⟩ : ∃ X, X = w2.drewN nq := ⟨_, rfl⟩) | (obtain ⟨q1, hq1⟩ : ∃ X, X = w2 := ⟨_, rfl⟩)
      have hb : Below w2.heap.size w2 q1 := by rw [hq1]; first | exact below_drewN (Below.refl _ _) _ | exact Below.refl _ _
      rw [← hq1]
      clear hq1
      replace HE := Lib.hid (HE.out.below hb)
      replace Hres := Lib.hid ((hb.block _ (lt_of_block Hres.out)).trans Hres.out)
      replace HB := Lib.hid (HB.out.trans (hb.mono HB.out.size))
      replace hl1w : l1 ≤ q1.heap.size := Nat.le_trans hl1w hb.size
      clear hb
      have hcz := HE.out.box
      obtain ⟨⟨y0, y1, y2, y3, y4, y5, y6, y7, y8, y9⟩, g0, g1, g2, g3, g4, g5, g6, g7, g8, g9⟩ := boxes10 Hres.out
      have hld := loadW2 (v := u) (A := B) HE.out.box
      obtain ⟨⟨x0, x1, x2, x3, x4, x5, x6, x7, x8, x9⟩, f0, f1, f2, f3, f4, f5, f6, f7, f8, f9⟩ := boxes10 HE.out.box
      clear hcz
      go_wp2_with fail
      have hz2 := set10_at Hres.out (.slice u.p.za B.plan.zones.length u.p.zc) (.slice u.p.fa B.plan.fates.length u.p.fc) (.int .i64 B.plan.ticks) (.slice u.p.da B.plan.drops.length u.p.dc) (.int .i64 B.clock) (.slice u.sa B.socks.length u.sc) (.slice u.ia B.dials.length u.ic) (.slice u.la B.looks.length u.lc) (.int .i64 B.dropped) (.slice u.ma B.marks.length u.mc)
      have hb2 := set10_below HB.out hlr1 (.slice u.p.za B.plan.zones.length u.p.zc) (.slice u.p.fa B.plan.fates.length u.p.fc) (.int .i64 B.plan.ticks) (.slice u.p.da B.plan.drops.length u.p.dc) (.int .i64 B.clock) (.slice u.sa B.socks.length u.sc) (.slice u.ia B.dials.length u.ic) (.slice u.la B.looks.length u.lc) (.int .i64 B.dropped) (.slice u.ma B.marks.length u.mc)
      refine bodyPost_ret (res_cell_tmp rfl _ _ _ r1 rfl _ (loadW2 (v := u) (A := B) hz2)) rfl ?_
      exact ⟨u, by first | rfl | exact HFin.out, HE.out.ret hr1 (fun b hb => by have := HNN.out b hb; omega) (.slice u.p.za B.plan.zones.length u.p.zc) (.slice u.p.fa B.plan.fates.length u.p.fc) (.int .i64 B.plan.ticks) (.slice u.p.da B.plan.drops.length u.p.dc) (.int .i64 B.clock) (.slice u.sa B.socks.length u.sc) (.slice u.ia B.dials.length u.ic) (.slice u.la B.looks.length u.lc) (.int .i64 B.dropped) (.slice u.ma B.marks.length u.mc), hb2⟩
    · have hd0 : decide (B.dropped < 0) = false := by simp; omega
      have hd1 : decide ((B.plan.drops.length : Int) ≤ B.dropped) = true := by simp [h]
      obtain ⟨⟨x0, x1, x2, x3, x4, x5, x6, x7, x8, x9⟩, f0, f1, f2, f3, f4, f5, f6, f7, f8, f9⟩ := boxes10 HE.out.box
      go_quiet (fail)
      clear x0 x1 x2 x3 x4 x5 x6 x7 x8 x9 f0 f1 f2 f3 f4 f5 f6 f7 f8 f9
      first | (obtain ⟨q1, hq1⟩ : ∃ X, X = w2.drewN nq := ⟨_, rfl⟩) | (obtain ⟨q1, hq1⟩ : ∃ X, X = w2 := ⟨_, rfl⟩)
      have hb : Below w2.heap.size w2 q1 := by rw [hq1]; first | exact below_drewN (Below.refl _ _) _ | exact Below.refl _ _
      rw [← hq1]
      clear hq1
      replace HE := Lib.hid (HE.out.below hb)
      replace Hres := Lib.hid ((hb.block _ (lt_of_block Hres.out)).trans Hres.out)
      replace HB := Lib.hid (HB.out.trans (hb.mono HB.out.size))
      replace hl1w : l1 ≤ q1.heap.size := Nat.le_trans hl1w hb.size
      clear hb
      have hcz := HE.out.box
      obtain ⟨⟨y0, y1, y2, y3, y4, y5, y6, y7, y8, y9⟩, g0, g1, g2, g3, g4, g5, g6, g7, g8, g9⟩ := boxes10 Hres.out
      have hld := loadW2 (v := u) (A := B) HE.out.box
      obtain ⟨⟨x0, x1, x2, x3, x4, x5, x6, x7, x8, x9⟩, f0, f1, f2, f3, f4, f5, f6, f7, f8, f9⟩ := boxes10 HE.out.box
      clear hcz
      go_wp2_with fail
      have hz2 := set10_at Hres.out (.slice u.p.za B.plan.zones.length u.p.zc) (.slice u.p.fa B.plan.fates.length u.p.fc) (.int .i64 B.plan.ticks) (.slice u.p.da B.plan.drops.length u.p.dc) (.int .i64 B.clock) (.slice u.sa B.socks.length u.sc) (.slice u.ia B.dials.length u.ic) (.slice u.la B.looks.length u.lc) (.int .i64 B.dropped) (.slice u.ma B.marks.length u.mc)
      have hb2 := set10_below HB.out hlr1 (.slice u.p.za B.plan.zones.length u.p.zc) (.slice u.p.fa B.plan.fates.length u.p.fc) (.int .i64 B.plan.ticks) (.slice u.p.da B.plan.drops.length u.p.dc) (.int .i64 B.clock) (.slice u.sa B.socks.length u.sc) (.slice u.ia B.dials.length u.ic) (.slice u.la B.looks.length u.lc) (.int .i64 B.dropped) (.slice u.ma B.marks.length u.mc)
      refine bodyPost_ret (res_cell_tmp rfl _ _ _ r1 rfl _ (loadW2 (v := u) (A := B) hz2)) rfl ?_
      exact ⟨u, by first | rfl | exact HFin.out, HE.out.ret hr1 (fun b hb => by have := HNN.out b hb; omega) (.slice u.p.za B.plan.zones.length u.p.zc) (.slice u.p.fa B.plan.fates.length u.p.fc) (.int .i64 B.plan.ticks) (.slice u.p.da B.plan.drops.length u.p.dc) (.int .i64 B.clock) (.slice u.sa B.socks.length u.sc) (.slice u.ia B.dials.length u.ic) (.slice u.la B.looks.length u.lc) (.int .i64 B.dropped) (.slice u.ma B.marks.length u.mc), hb2⟩
  · have h0 : ¬ A.dropped < 0 := by omega
    have h2 : A.dropped < (A.plan.drops.length : Int) := by omega
    have h3 : 0 ≤ A.dropped := by omega
    obtain ⟨n, hn⟩ : ∃ n, A.plan.drops[A.dropped.toNat]? = some n := ⟨_, List.getElem?_eq_getElem (by omega)⟩
    have hNn : dropN A = some n := by unfold dropN; rw [if_neg h0, hn]
    obtain rfl : r = 0 := by rw [hr]; unfold dropE; rw [hNn]
    have HBE := Lib.hid (show B = { A with socks := deadAt A.socks n, dropped := A.dropped + 1 } by rw [hB]; unfold dropP; rw [hNn])
    have hw : IntKind.i64.wrap (A.dropped + 1) = A.dropped + 1 := by rw [IntKind.wrap_i64]; omega
    have hd0 : decide (A.dropped < 0) = false := by simp; omega
    have hd1 : decide ((A.plan.drops.length : Int) ≤ A.dropped) = false := by simp; omega
    clear hB hr hNn h
    obtain ⟨⟨x0, x1, x2, x3, x4, x5, x6, x7, x8, x9⟩, f0, f1, f2, f3, f4, f5, f6, f7, f8, f9⟩ := boxes10 HE.out.box
    go_quiet (fail)
    clear x0 x1 x2 x3 x4 x5 x6 x7 x8 x9 f0 f1 f2 f3 f4 f5 f6 f7 f8 f9
    first | (obtain ⟨q1, hq1⟩ : ∃ X, X = w2.drewN nq := ⟨_, rfl⟩) | (obtain ⟨q1, hq1⟩ : ∃ X, X = w2 := ⟨_, rfl⟩)
    have hb : Below w2.heap.size w2 q1 := by rw [hq1]; first | exact below_drewN (Below.refl _ _) _ | exact Below.refl _ _
    rw [← hq1]
    clear hq1
    replace HE := Lib.hid (HE.out.below hb)
    replace Hres := Lib.hid ((hb.block _ (lt_of_block Hres.out)).trans Hres.out)
    replace HB := Lib.hid (HB.out.trans (hb.mono HB.out.size))
    replace hl1w : l1 ≤ q1.heap.size := Nat.le_trans hl1w hb.size
    clear hb
    clear hd0 hd1
    obtain ⟨bd, od, hda, hbl, hat⟩ := HE.out.plan.now.drops.2.2.2 (by omega)
    have y0 := IK.one hat hn
    have HDA := Lib.hid hda
    clear hda hat hn
    have HSB := Lib.hid (show ∀ W : World, Below q1.heap.size q1 W → ((W.cell? ⟨g, 0, none⟩ = some (.slice u.p.za A.plan.zones.length u.p.zc) ∧ W.cell? ⟨g, 1, none⟩ = some (.slice u.p.fa A.plan.fates.length u.p.fc) ∧ W.cell? ⟨g, 2, none⟩ = some (.int .i64 A.plan.ticks) ∧ W.cell? ⟨g, 3, none⟩ = some (.slice (some ⟨bd, od, none⟩) A.plan.drops.length u.p.dc) ∧ W.cell? ⟨g, 4, none⟩ = some (.int .i64 A.clock) ∧ W.cell? ⟨g, 5, none⟩ = some (.slice u.sa A.socks.length u.sc) ∧ W.cell? ⟨g, 6, none⟩ = some (.slice u.ia A.dials.length u.ic) ∧ W.cell? ⟨g, 7, none⟩ = some (.slice u.la A.looks.length u.lc) ∧ W.cell? ⟨g, 8, none⟩ = some (.int .i64 A.dropped) ∧ W.cell? ⟨g, 9, none⟩ = some (.slice u.ma A.marks.length u.mc)) ∧ W.cell? ⟨bd, od + A.dropped.toNat, none⟩ = some (.int .i64 n)) ∧ Below q1.heap.size q1 W from fun W h => ⟨⟨by have := (boxes10 ((h.block _ (lt_of_block HE.out.box)).trans HE.out.box)).1; rw [HDA.out] at this; exact this, (h.cell (p := ⟨bd, od + A.dropped.toNat, none⟩) hbl).trans y0⟩, h⟩)
    clear y0
    go_upto_region 4 with fail
    by_cases ho : openP A.socks n = true
    · obtain ⟨k, x, rfl, hx, hx0⟩ : ∃ (k : Nat) (x : Sk), n = k ∧ A.socks[k]? = some x ∧ x.shut = 0 := by
        unfold openP at ho
        split at ho
        · cases ho
        · rename_i hn0
          cases hx : A.socks[n.toNat]? with
          | none => rw [hx] at ho; cases ho
          | some x =>
            rw [hx] at ho
            exact ⟨n.toNat, x, by omega, by rw [← hx], by simpa [isOpen] using ho⟩
      obtain ⟨S2, hS2⟩ : ∃ S, S = A.socks.set k { x with dead := true } := ⟨_, rfl⟩
      have hD : deadAt A.socks k = S2 := by rw [hS2]; unfold deadAt; rw [if_pos ho, show ((k : Int)).toNat = k by omega, hx]
      rw [hD] at HBE
      have HC := Lib.hid (fun W (h : Below q1.heap.size q1 W) => sdrop_spec A.socks k x u.sa u.sc W S2 (by omega) hx hx0 hS2 (HE.out.below h).socks.1)
      clear ho hx hx0 hD hS2
      go_region_held3 (fun W => ((W.cell? ⟨g, 0, none⟩ = some (.slice u.p.za A.plan.zones.length u.p.zc) ∧ W.cell? ⟨g, 1, none⟩ = some (.slice u.p.fa A.plan.fates.length u.p.fc) ∧ W.cell? ⟨g, 2, none⟩ = some (.int .i64 A.plan.ticks) ∧ W.cell? ⟨g, 3, none⟩ = some (.slice (some ⟨bd, od, none⟩) A.plan.drops.length u.p.dc) ∧ W.cell? ⟨g, 4, none⟩ = some (.int .i64 A.clock) ∧ W.cell? ⟨g, 5, none⟩ = some (.slice u.sa A.socks.length u.sc) ∧ W.cell? ⟨g, 6, none⟩ = some (.slice u.ia A.dials.length u.ic) ∧ W.cell? ⟨g, 7, none⟩ = some (.slice u.la A.looks.length u.lc) ∧ W.cell? ⟨g, 8, none⟩ = some (.int .i64 A.dropped) ∧ W.cell? ⟨g, 9, none⟩ = some (.slice u.ma A.marks.length u.mc)) ∧ W.cell? ⟨bd, od + A.dropped.toNat, none⟩ = some (.int .i64 (k : Int))) ∧ Below q1.heap.size q1 W)
        (first | assumption | exact HSB.out _ (Below.refl _ _) | exact HSB.out _ (kept_call (by assumption) hbC) | exact HSB.out _ (Below.refl _ _).drew)
        (first
          | (go_at_call 25; (with_reducible refine (HC.out _ (kept_self (by assumption))).mono ?_); rintro e wC ⟨a1, c1, rfl, hl1, hbC⟩))
      have hb : Below q1.heap.size q1 wC := by first | exact kept_self (by assumption) | exact kept_call (by assumption) hbC | exact kept_call (by assumption) (Below.refl _ wC)
      have HO1 := Lib.hid (HE.out.off (W' := wC) hl1w (show SK.Loose wC q1.heap.size a1 c1 S2 from by first | exact hl1 | exact hl1.mono (kept_self (by assumption)).size))
      clear HSB HC hl1 hbl
      replace HE := Lib.hid (HE.out.below hb)
      replace Hres := Lib.hid ((hb.block _ (lt_of_block Hres.out)).trans Hres.out)
      replace HB := Lib.hid (HB.out.trans (hb.mono HB.out.size))
      replace hl1w : l1 ≤ wC.heap.size := Nat.le_trans hl1w hb.size
      clear hb
      obtain ⟨⟨x0, x1, x2, x3, x4, x5, x6, x7, x8, x9⟩, f0, f1, f2, f3, f4, f5, f6, f7, f8, f9⟩ := boxes10 HE.out.box
      go_upto_region 7 with fail
      clear x0 x1 x2 x3 x4 x5 x6 x7 x8 x9 f0 f1 f2 f3 f4 f5 f6 f7 f8 f9
      have hE9 := HE.out.putSocks HO1.out
      have hb9 := HB.out.setCell (p := ⟨g, 5, none⟩) (by have := HE.out.hg; have := hlr1; dsimp only; omega) (.slice a1 S2.length c1)
      have hsres := (Below.heap_setCell wC ⟨g, 5, none⟩ (.slice a1 S2.length c1) r1 (by have := HE.out.hg; dsimp only; omega)).trans Hres.out
      obtain ⟨q2, hq2⟩ : ∃ X, X = wC.setCell ⟨g, 5, none⟩ (.slice a1 S2.length c1) := ⟨_, rfl⟩
      have hs9 : l1 ≤ (wC.setCell ⟨g, 5, none⟩ (.slice a1 S2.length c1)).heap.size := by simpa using hl1w
      rw [← hq2] at hE9 hb9 hs9 hsres ⊢
      clear hq2
      replace HE := Lib.hid hE9
      replace HB := Lib.hid hb9
      replace hl1w := hs9
      replace Hres := Lib.hid hsres
      clear hE9 hb9 hs9 hsres
      clear HO1
      obtain ⟨A1, hA1⟩ : ∃ X : Wo, X = { A with socks := S2 } := ⟨_, rfl⟩
      have hBE2 := Lib.hid (show B = { A1 with dropped := A.dropped + 1 } from by rw [HBE.out, hA1])
      have hdA : A.dropped = A1.dropped := by rw [hA1]
      rw [← hA1] at HE
      rw [hdA] at hw hBE2
      have HpA := Lib.hid hA1
      clear hA1 HBE hdA
      obtain ⟨⟨x0, x1, x2, x3, x4, x5, x6, x7, x8, x9⟩, f0, f1, f2, f3, f4, f5, f6, f7, f8, f9⟩ := boxes10 HE.out.box
      go_upto_region 8 with fail
      clear x0 x1 x2 x3 x4 x5 x6 x7 x8 x9 f0 f1 f2 f3 f4 f5 f6 f7 f8 f9
      have hE9 := HE.out.drops (A1.dropped + 1)
      have hb9 := HB.out.setCell (p := ⟨g, 8, none⟩) (by have := HE.out.hg; have := hlr1; dsimp only; omega) (.int .i64 (A1.dropped + 1))
      have hsres := (Below.heap_setCell q2 ⟨g, 8, none⟩ (.int .i64 (A1.dropped + 1)) r1 (by have := HE.out.hg; dsimp only; omega)).trans Hres.out
      obtain ⟨q3, hq3⟩ : ∃ X, X = q2.setCell ⟨g, 8, none⟩ (.int .i64 (A1.dropped + 1)) := ⟨_, rfl⟩
      have hs9 : l1 ≤ (q2.setCell ⟨g, 8, none⟩ (.int .i64 (A1.dropped + 1))).heap.size := by simpa using hl1w
      rw [← hq3] at hE9 hb9 hs9 hsres ⊢
      clear hq3
      replace HE := Lib.hid hE9
      replace HB := Lib.hid hb9
      replace hl1w := hs9
      replace Hres := Lib.hid hsres
      clear hE9 hb9 hs9 hsres
      rw [← hBE2.out] at HE
      clear hw
      have hcz := HE.out.box
      obtain ⟨⟨y0, y1, y2, y3, y4, y5, y6, y7, y8, y9⟩, g0, g1, g2, g3, g4, g5, g6, g7, g8, g9⟩ := boxes10 Hres.out
      have hld := loadW2 (v := (⟨u.p, a1, c1, u.ia, u.ic, u.la, u.lc, u.ma, u.mc⟩ : Wv)) (A := B) HE.out.box
      obtain ⟨⟨x0, x1, x2, x3, x4, x5, x6, x7, x8, x9⟩, f0, f1, f2, f3, f4, f5, f6, f7, f8, f9⟩ := boxes10 HE.out.box
      clear hcz
      go_wp2_with fail
      have hz2 := set10_at Hres.out (.slice u.p.za B.plan.zones.length u.p.zc) (.slice u.p.fa B.plan.fates.length u.p.fc) (.int .i64 B.plan.ticks) (.slice u.p.da B.plan.drops.length u.p.dc) (.int .i64 B.clock) (.slice a1 B.socks.length c1) (.slice u.ia B.dials.length u.ic) (.slice u.la B.looks.length u.lc) (.int .i64 B.dropped) (.slice u.ma B.marks.length u.mc)
      have hb2 := set10_below HB.out hlr1 (.slice u.p.za B.plan.zones.length u.p.zc) (.slice u.p.fa B.plan.fates.length u.p.fc) (.int .i64 B.plan.ticks) (.slice u.p.da B.plan.drops.length u.p.dc) (.int .i64 B.clock) (.slice a1 B.socks.length c1) (.slice u.ia B.dials.length u.ic) (.slice u.la B.looks.length u.lc) (.int .i64 B.dropped) (.slice u.ma B.marks.length u.mc)
      refine bodyPost_ret (res_cell_tmp rfl _ _ _ r1 rfl _ (loadW2 (v := (⟨u.p, a1, c1, u.ia, u.ic, u.la, u.lc, u.ma, u.mc⟩ : Wv)) (A := B) hz2)) rfl ?_
      exact ⟨(⟨u.p, a1, c1, u.ia, u.ic, u.la, u.lc, u.ma, u.mc⟩ : Wv), by first | rfl | exact HFin.out, HE.out.ret hr1 (fun b hb => by have := HNN.out b hb; omega) (.slice u.p.za B.plan.zones.length u.p.zc) (.slice u.p.fa B.plan.fates.length u.p.fc) (.int .i64 B.plan.ticks) (.slice u.p.da B.plan.drops.length u.p.dc) (.int .i64 B.clock) (.slice a1 B.socks.length c1) (.slice u.ia B.dials.length u.ic) (.slice u.la B.looks.length u.lc) (.int .i64 B.dropped) (.slice u.ma B.marks.length u.mc), hb2⟩
    · have hD : deadAt A.socks n = A.socks := by unfold deadAt; rw [if_neg ho]
      rw [hD] at HBE
      have hof : openP A.socks n = false := by simpa using ho
      have HC := Lib.hid (fun W (h : Below q1.heap.size q1 W) => sdrop_none A.socks n u.sa u.sc W (by omega) hof (HE.out.below h).socks.1)
      clear ho hof hD
      go_region_held3 (fun W => ((W.cell? ⟨g, 0, none⟩ = some (.slice u.p.za A.plan.zones.length u.p.zc) ∧ W.cell? ⟨g, 1, none⟩ = some (.slice u.p.fa A.plan.fates.length u.p.fc) ∧ W.cell? ⟨g, 2, none⟩ = some (.int .i64 A.plan.ticks) ∧ W.cell? ⟨g, 3, none⟩ = some (.slice (some ⟨bd, od, none⟩) A.plan.drops.length u.p.dc) ∧ W.cell? ⟨g, 4, none⟩ = some (.int .i64 A.clock) ∧ W.cell? ⟨g, 5, none⟩ = some (.slice u.sa A.socks.length u.sc) ∧ W.cell? ⟨g, 6, none⟩ = some (.slice u.ia A.dials.length u.ic) ∧ W.cell? ⟨g, 7, none⟩ = some (.slice u.la A.looks.length u.lc) ∧ W.cell? ⟨g, 8, none⟩ = some (.int .i64 A.dropped) ∧ W.cell? ⟨g, 9, none⟩ = some (.slice u.ma A.marks.length u.mc)) ∧ W.cell? ⟨bd, od + A.dropped.toNat, none⟩ = some (.int .i64 n)) ∧ Below q1.heap.size q1 W)
        (first | assumption | exact HSB.out _ (Below.refl _ _) | exact HSB.out _ (kept_call (by assumption) hbC) | exact HSB.out _ (Below.refl _ _).drew)
        (first
          | (go_at_call 25; (with_reducible refine (HC.out _ (kept_self (by assumption))).mono ?_); rintro e wC ⟨rfl, hbC⟩))
      have hb : Below q1.heap.size q1 wC := by first | exact kept_self (by assumption) | exact kept_call (by assumption) hbC | exact kept_call (by assumption) (Below.refl _ wC)
      clear HSB HC hbl
      replace HE := Lib.hid (HE.out.below hb)
      replace Hres := Lib.hid ((hb.block _ (lt_of_block Hres.out)).trans Hres.out)
      replace HB := Lib.hid (HB.out.trans (hb.mono HB.out.size))
      replace hl1w : l1 ≤ wC.heap.size := Nat.le_trans hl1w hb.size
      clear hb
      obtain ⟨⟨x0, x1, x2, x3, x4, x5, x6, x7, x8, x9⟩, f0, f1, f2, f3, f4, f5, f6, f7, f8, f9⟩ := boxes10 HE.out.box
      go_upto_region 8 with fail
      clear x0 x1 x2 x3 x4 x5 x6 x7 x8 x9 f0 f1 f2 f3 f4 f5 f6 f7 f8 f9
      have hE9 := HE.out.drops (A.dropped + 1)
      have hb9 := HB.out.setCell (p := ⟨g, 8, none⟩) (by have := HE.out.hg; have := hlr1; dsimp only; omega) (.int .i64 (A.dropped + 1))
      have hsres := (Below.heap_setCell wC ⟨g, 8, none⟩ (.int .i64 (A.dropped + 1)) r1 (by have := HE.out.hg; dsimp only; omega)).trans Hres.out
      obtain ⟨q2, hq2⟩ : ∃ X, X = wC.setCell ⟨g, 8, none⟩ (.int .i64 (A.dropped + 1)) := ⟨_, rfl⟩
      have hs9 : l1 ≤ (wC.setCell ⟨g, 8, none⟩ (.int .i64 (A.dropped + 1))).heap.size := by simpa using hl1w
      rw [← hq2] at hE9 hb9 hs9 hsres ⊢
      clear hq2
      replace HE := Lib.hid hE9
      replace HB := Lib.hid hb9
      replace hl1w := hs9
      replace Hres := Lib.hid hsres
      clear hE9 hb9 hs9 hsres
      rw [← HBE.out] at HE
      clear hw
      have hcz := HE.out.box
      obtain ⟨⟨y0, y1, y2, y3, y4, y5, y6, y7, y8, y9⟩, g0, g1, g2, g3, g4, g5, g6, g7, g8, g9⟩ := boxes10 Hres.out
      have hld := loadW2 (v := u) (A := B) HE.out.box
      obtain ⟨⟨x0, x1, x2, x3, x4, x5, x6, x7, x8, x9⟩, f0, f1, f2, f3, f4, f5, f6, f7, f8, f9⟩ := boxes10 HE.out.box
      clear hcz
      go_wp2_with fail
      have hz2 := set10_at Hres.out (.slice u.p.za B.plan.zones.length u.p.zc) (.slice u.p.fa B.plan.fates.length u.p.fc) (.int .i64 B.plan.ticks) (.slice u.p.da B.plan.drops.length u.p.dc) (.int .i64 B.clock) (.slice u.sa B.socks.length u.sc) (.slice u.ia B.dials.length u.ic) (.slice u.la B.looks.length u.lc) (.int .i64 B.dropped) (.slice u.ma B.marks.length u.mc)
      have hb2 := set10_below HB.out hlr1 (.slice u.p.za B.plan.zones.length u.p.zc) (.slice u.p.fa B.plan.fates.length u.p.fc) (.int .i64 B.plan.ticks) (.slice u.p.da B.plan.drops.length u.p.dc) (.int .i64 B.clock) (.slice u.sa B.socks.length u.sc) (.slice u.ia B.dials.length u.ic) (.slice u.la B.looks.length u.lc) (.int .i64 B.dropped) (.slice u.ma B.marks.length u.mc)
      refine bodyPost_ret (res_cell_tmp rfl _ _ _ r1 rfl _ (loadW2 (v := u) (A := B) hz2)) rfl ?_
      exact ⟨u, by first | rfl | exact HFin.out, HE.out.ret hr1 (fun b hb => by have := HNN.out b hb; omega) (.slice u.p.za B.plan.zones.length u.p.zc) (.slice u.p.fa B.plan.fates.length u.p.fc) (.int .i64 B.plan.ticks) (.slice u.p.da B.plan.drops.length u.p.dc) (.int .i64 B.clock) (.slice u.sa B.socks.length u.sc) (.slice u.ia B.dials.length u.ic) (.slice u.la B.looks.length u.lc) (.int .i64 B.dropped) (.slice u.ma B.marks.length u.mc), hb2⟩

end Go.Proofs.Ytciohjgcndgiaaa
