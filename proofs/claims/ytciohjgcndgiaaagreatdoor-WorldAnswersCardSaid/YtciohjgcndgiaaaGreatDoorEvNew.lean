/- New worlds, by the landed world. -/
import Derived.Test.YtciohjgcndgiaaaGreatDoorEvt
import Derived.Test.YtciohjgcndgiaaaGreatDoorCheckQ
set_option linter.unusedSimpArgs false
set_option linter.unusedVariables false
namespace Go.Proofs.YtciohjgcndgiaaaGreatDoor
open Go.RowKit Go.Proofs.YtciohjgcndgiaaaGreatDoor.Kind

theorem new_fits {P : Pl} (h : checkB theR P = true) (hM : Mem P) : Fit P := by
  have h2 := check_few h
  refine ⟨by omega, fun z hz => ⟨?_, fun l hl => (hM.fits z hz l hl).1⟩, by omega, hM.fates, hM.drops⟩
  have h3 : zokB z = true := by
    unfold checkB at h
    simp only [Bool.and_eq_true, List.all_eq_true] at h
    exact h.1.1.1.1.1.1.1.2 z hz
  unfold zokB at h3
  simp only [Bool.and_eq_true, decide_eq_true_eq] at h3
  omega
set_option maxHeartbeats 4000000 in
set_option maxRecDepth 1000000 in
theorem new_spec : NewSpec theR := by
  intro N P v w A r hN hM hP hA hr
  obtain ⟨rc, hrc⟩ : ∃ rc : Int, rc = (if checkB theR P = true then 0 else 90) := ⟨_, rfl⟩
  have HCk := Lib.hid (fun w h => check_real P v w rc hM.names h hrc)
  have HOw := Lib.hid (fun hF W h => own_plan P v W hF h)
  have HP := Lib.hid hP
  have HNN := Lib.hid hN
  have HM := Lib.hid hM
  clear hP hN hM
  simp only [Pv.val] at HCk HOw ⊢
  have hb := below2 w (.cells #[.slice v.za P.zones.length v.zc, .slice v.fa P.fates.length v.fc, .int .i64 P.ticks, .slice v.da P.drops.length v.dc] 26) (.cells #[.slice none 0 0, .slice none 0 0, .int .i64 0, .slice none 0 0, .int .i64 0, .slice none 0 0, .slice none 0 0, .slice none 0 0, .int .i64 0, .slice none 0 0] 32)
  have hL := laid2 w (.cells #[.slice v.za P.zones.length v.zc, .slice v.fa P.fates.length v.fc, .int .i64 P.ticks, .slice v.da P.drops.length v.dc] 26) (.cells #[.slice none 0 0, .slice none 0 0, .int .i64 0, .slice none 0 0, .int .i64 0, .slice none 0 0, .slice none 0 0, .slice none 0 0, .int .i64 0, .slice none 0 0] 32)
  go_enter Tryz.func4, Tryz.ntmps4
  go_upto_region 1 with fail
  obtain ⟨w1, hw1⟩ : ∃ X, X = (w.alloc (.cells #[.slice v.za P.zones.length v.zc, .slice v.fa P.fates.length v.fc, .int .i64 P.ticks, .slice v.da P.drops.length v.dc] 26)).alloc (.cells #[.slice none 0 0, .slice none 0 0, .int .i64 0, .slice none 0 0, .int .i64 0, .slice none 0 0, .slice none 0 0, .slice none 0 0, .int .i64 0, .slice none 0 0] 32) := ⟨_, rfl⟩
  have hsz1 : w1.heap.size = w.heap.size + 2 := by rw [hw1]; simp
  rw [← hw1] at hb hL ⊢
  clear hw1
  generalize hG1 : w.heap.size + 1 = r1 at hL ⊢
  have HB := Lib.hid hb
  have Hp := Lib.hid hL.1
  have Hres := Lib.hid hL.2
  have HX := Lib.hid (HCk.out w1 (HP.out.below hb))
  obtain ⟨⟨x0, x1, x2, x3⟩, _⟩ := box4 hL.1
  have hld := loadP hL.1
  clear hL hb HCk
  go_wp2_with fail
  with_reducible refine HX.out.mono ?_
  rintro e w2 ⟨rfl, hb⟩
  replace Hp := Lib.hid ((hb.block _ (lt_of_block Hp.out)).trans Hp.out)
  replace Hres := Lib.hid ((hb.block _ (lt_of_block Hres.out)).trans Hres.out)
  replace HB := Lib.hid (HB.out.trans (hb.mono HB.out.size))
  have hs2 := hb.size
  clear x0 x1 x2 x3 hld HX hb
  have hlr1 : w.heap.size ≤ r1 := by omega
  by_cases hck : checkB theR P = true
  · obtain rfl : rc = 0 := by rw [hrc, if_pos hck]
    obtain rfl : r = 0 := by rw [hr]; unfold newE; rw [if_pos hck]
    obtain rfl : A = Wo.new P := by rw [hA]; unfold newP; rw [if_pos hck]
    have hft := new_fits hck HM.out
    clear hrc hr hA
    have HX := Lib.hid (HOw.out hft w2 (HP.out.below HB.out))
    clear hft HOw
    obtain ⟨⟨x0, x1, x2, x3⟩, _⟩ := box4 Hp.out
    have hld := loadP Hp.out
    go_wp2_with fail
    with_reducible refine HX.out.mono ?_
    rintro e w3 ⟨u, rfl, hpl, hb⟩
    simp only [Pv.val]
    replace Hres := Lib.hid ((hb.block _ (lt_of_block Hres.out)).trans Hres.out)
    have hs0 := HB.out.size
    replace HB := Lib.hid (HB.out.trans (hb.mono HB.out.size))
    have HPl := Lib.hid hpl
    clear x0 x1 x2 x3 hld HX hb hpl
    obtain ⟨⟨y0, y1, y2, y3, y4, y5, y6, y7, y8, y9⟩, g0, g1, g2, g3, g4, g5, g6, g7, g8, g9⟩ := boxes10 Hres.out
    go_wp2_with fail
    have hz2 := set10_at Hres.out (.slice u.za P.zones.length u.zc) (.slice u.fa P.fates.length u.fc) (.int .i64 P.ticks) (.slice u.da P.drops.length u.dc) (.int .i64 0) (.slice none 0 0) (.slice none 0 0) (.slice none 0 0) (.int .i64 0) (.slice none 0 0)
    have hb2 := set10_below HB.out hlr1 (.slice u.za P.zones.length u.zc) (.slice u.fa P.fates.length u.fc) (.int .i64 P.ticks) (.slice u.da P.drops.length u.dc) (.int .i64 0) (.slice none 0 0) (.slice none 0 0) (.slice none 0 0) (.int .i64 0) (.slice none 0 0)
    refine bodyPost_ret (res_cell_tmp rfl _ _ _ r1 rfl _ (loadW2 (v := Wv.bare u) (A := Wo.new P) hz2)) rfl ?_
    have hr2 : r1 < w2.heap.size := by omega
    exact ⟨Wv.bare u, rfl, flat_bare (((((((((((HPl.out.set (p := ⟨r1, 0, none⟩) hr2 (.slice u.za P.zones.length u.zc)).set (p := ⟨r1, 1, none⟩) hr2 (.slice u.fa P.fates.length u.fc)).set (p := ⟨r1, 2, none⟩) hr2 (.int .i64 P.ticks)).set (p := ⟨r1, 3, none⟩) hr2 (.slice u.da P.drops.length u.dc)).set (p := ⟨r1, 4, none⟩) hr2 (.int .i64 0)).set (p := ⟨r1, 5, none⟩) hr2 (.slice none 0 0)).set (p := ⟨r1, 6, none⟩) hr2 (.slice none 0 0)).set (p := ⟨r1, 7, none⟩) hr2 (.slice none 0 0)).set (p := ⟨r1, 8, none⟩) hr2 (.int .i64 0)).set (p := ⟨r1, 9, none⟩) hr2 (.slice none 0 0)).more (fun b hb => .inl (by have := HNN.out b hb; omega))), hb2⟩
  · obtain rfl : rc = 90 := by rw [hrc, if_neg hck]
    obtain rfl : r = 90 := by rw [hr]; unfold newE; rw [if_neg hck]
    obtain rfl : A = Wo.new Pl.zero := by rw [hA]; unfold newP; rw [if_neg hck]
    clear hrc hr hA
    obtain ⟨⟨y0, y1, y2, y3, y4, y5, y6, y7, y8, y9⟩, g0, g1, g2, g3, g4, g5, g6, g7, g8, g9⟩ := boxes10 Hres.out
    go_wp2_with fail
    have hz2 := set10_at Hres.out (.slice none 0 0) (.slice none 0 0) (.int .i64 0) (.slice none 0 0) (.int .i64 0) (.slice none 0 0) (.slice none 0 0) (.slice none 0 0) (.int .i64 0) (.slice none 0 0)
    have hb2 := set10_below HB.out hlr1 (.slice none 0 0) (.slice none 0 0) (.int .i64 0) (.slice none 0 0) (.int .i64 0) (.slice none 0 0) (.slice none 0 0) (.slice none 0 0) (.int .i64 0) (.slice none 0 0)
    refine bodyPost_ret (res_cell_tmp rfl _ _ _ r1 rfl _ (loadW2 (v := Wv.bare Pv.bare) (A := Wo.new Pl.zero) hz2)) rfl ?_
    exact ⟨Wv.bare Pv.bare, rfl, flat_bare (fun w' _ => plan_bare w'), hb2⟩

end Go.Proofs.YtciohjgcndgiaaaGreatDoor
