/- What the document says of a dial that hangs. -/
import Derived.Test.YtciohjgcndgiaaaGreatDoorOne
set_option linter.unusedSimpArgs false
set_option linter.unusedVariables false
namespace Go.Proofs.YtciohjgcndgiaaaGreatDoor
open Go.RowKit Go.Proofs.YtciohjgcndgiaaaGreatDoor.Kind

def woO (d : List Di) : Wo := ⟨planO, 0, [], d, [], 0, []⟩
def diO (c o : Bool) : Di := ⟨5, adO, 2, c, o⟩
def ltO : Lt := ⟨11, 0, 0, 0, { data := #[] }, 160⟩
theorem few_o : Few planO := ⟨fun z hz => by simp [planO] at hz, by decide, by decide⟩
theorem mem_o : Mem planO := ⟨fun z hz => by simp [planO] at hz, fun z hz => by simp [planO] at hz, fun f hf => by simp [planO] at hf; subst hf; simp, by simp [planO]⟩
theorem room_o (d : List Di) (h : d.length ≤ 400) : Room (woO d) := ⟨mem_o, few_o, by simp [woO], by simp [woO], h, by simp [woO], by simp [woO, planO], by simp [woO]⟩
theorem okA_o : okA adO := by unfold okA adO; decide
theorem ok_o (d : Di) (h : d.ad = adO) : ∀ x ∈ (woO [d]).dials, okA x.ad := fun x hx => by simp [woO] at hx; subst hx; rw [h]; exact okA_o
theorem o1 : woO [diO false false] = dialP (woO []) 5 adO ∧ (0 : Int) = dialE (woO []) 5 adO := ⟨by rfl, by rfl⟩
theorem o2 : false = readyP (woO [diO false false]) 5 ∧ (1 : Int) = (underP (woO [diO false false]) [] : Int) := ⟨by rfl, by rfl⟩
theorem o3 : woO [diO true false] = cutP (woO [diO false false]) 5 := by rfl
theorem o4 : woO [diO true true] = endP (woO [diO true false]) 5 ∧ ltO = endM (woO [diO true false]) 5 ∧ (0 : Int) = endE (woO [diO true false]) 5 := ⟨by rfl, by rfl, by rfl⟩
theorem o5 : true = readyP (woO [diO true false]) 5 ∧ (0 : Int) = (underP (woO [diO true true]) [adO] : Int) := ⟨by rfl, by rfl⟩
set_option maxHeartbeats 40000000 in
set_option maxRecDepth 1000000 in
theorem wakes_walk (R : Rules) (hR : checkB R planO = true) (HNew : NewSpec R) (HDial : DialSpec) (HReady : ReadySpec) (HUnder : UnderOkSpec) (HCut : CutSpec) (HEnd : EndSpec) : WakesSpec := by
  intro w
  have HOne := Lib.hid (fun w => one_any w)
  have e0 : woO [] = newP R planO := by unfold newP; rw [if_pos hR]; rfl
  have e1 : (0 : Int) = newE R planO := by unfold newE; rw [if_pos hR]
  have HNw := Lib.hid (fun N v w hN hp => HNew N planO v w (woO []) 0 hN mem_o hp e0 e1)
  have HDl := Lib.hid (fun N v w hN hf => HDial N (woO []) v 5 adO w _ _ hN (room_o _ (by simp)) hf o1.1 o1.2)
  have HRd1 := Lib.hid (fun v w h => HReady (woO [diO false false]) v 5 w _ (room_o _ (by simp)) h o2.1)
  have HRd2 := Lib.hid (fun v w h => HReady (woO [diO true false]) v 5 w _ (room_o _ (by simp)) h o5.1)
  have HUn1 := Lib.hid (fun v w h => HUnder (woO [diO false false]) v [] none 0 w _ (room_o _ (by simp)) (by simp) (ok_o _ rfl) (by simp) h (row_none _) o2.2)
  have HUn2 := Lib.hid (fun v a c w h hr => HUnder (woO [diO true true]) v [adO] a c w _ (room_o _ (by simp)) (by simp) (ok_o _ rfl) (fun x hx => by simp at hx; subst hx; exact okA_o) h hr o5.2)
  have HCt := Lib.hid (fun N v w hN hf => HCut N (woO [diO false false]) v 5 w _ hN (room_o _ (by simp)) hf o3)
  have HEn := Lib.hid (fun N v w hN hf => HEnd N (woO [diO true false]) v 5 w _ _ _ hN (room_o _ (by simp)) hf o4.1 o4.2.1 o4.2.2)
  clear HNew HDial HReady HUnder HCut HEnd e0 e1 hR
  have hpl0 : (woO []).plan = planO := rfl
  have hpl1 : (woO [diO false false]).plan = planO := rfl
  have hpl2 : (woO [diO true false]).plan = planO := rfl
  have hpl3 : (woO [diO true true]).plan = planO := rfl
  have hS3 : (woO [diO true true]).socks.length = 0 := rfl
  have hM : ltO.e = 160 := rfl
  generalize woO [] = A0 at *
  generalize woO [diO false false] = A1 at *
  generalize woO [diO true false] = A2 at *
  generalize woO [diO true true] = A3 at *
  generalize ltO = M at *
  have hone : adO.v = adO.v := rfl
  generalize planO = P at *
  have HAl : Hid (∀ (W : World) (g : Nat), W.heap.size = g → AK.RowC (W.alloc (.cells #[.int .i8 adO.f, .int .u16 adO.g0, .int .u16 adO.g1, .int .u16 adO.g2, .int .u16 adO.g3, .int .u16 adO.g4, .int .u16 adO.g5, .int .u16 adO.g6, .int .u16 adO.g7, .int .i64 adO.p] 59)) (some ⟨g, 0, none⟩) 1 [adO]) := Lib.hid (fun W g h => by subst h; exact rowC_at (K := AK) W 59 [adO] _ W.heap.size 1 rfl rfl rfl (by simp))
  generalize adO = ad at *
  clear hone
  have HS3 := Lib.hid hS3
  have HM := Lib.hid hM
  have HP1 := Lib.hid hpl0
  have HP2 := Lib.hid hpl1
  have HP3 := Lib.hid hpl2
  have HP4 := Lib.hid hpl3
  clear hS3 hM hpl0 hpl1 hpl2 hpl3
  simp only [Pv.val, Wv.val, Wv.cells, Ad.v, Lt.v, List.length_nil, List.length_cons, Nat.zero_add] at HOne HNw HDl HRd1 HRd2 HUn1 HUn2 HCt HEn
  go_enter Tryz.func6, Tryz.ntmps6
  go_wp2_with fail
  with_reducible refine (HOne.out w).mono ?_
  rintro e wA ⟨pv, rfl, hpl, hb⟩
  have HBA := Lib.hid hb
  have HPL := Lib.hid (fun (W : World) (h : Below wA.heap.size wA W) => hpl.below h)
  have HB := Lib.hid (Below.refl wA.heap.size wA)
  clear hpl hb HOne
  simp only [Pv.val, Ad.v]
  go_upto_region 2 with fail
  obtain ⟨bx1, hdx1⟩ : ∃ b, b = wA.heap.size := ⟨_, rfl⟩
  have hgex1 : wA.heap.size ≤ bx1 := by rw [hdx1]; exact HB.out.size
  have hl2 := laid2 wA (.cells #[.slice pv.za P.zones.length pv.zc, .slice pv.fa P.fates.length pv.fc, .int .i64 P.ticks, .slice pv.da P.drops.length pv.dc] 26) (.cells #[.int .i8 ad.f, .int .u16 ad.g0, .int .u16 ad.g1, .int .u16 ad.g2, .int .u16 ad.g3, .int .u16 ad.g4, .int .u16 ad.g5, .int .u16 ad.g6, .int .u16 ad.g7, .int .i64 ad.p] 59)
  have hb2 := below2 wA (.cells #[.slice pv.za P.zones.length pv.zc, .slice pv.fa P.fates.length pv.fc, .int .i64 P.ticks, .slice pv.da P.drops.length pv.dc] 26) (.cells #[.int .i8 ad.f, .int .u16 ad.g0, .int .u16 ad.g1, .int .u16 ad.g2, .int .u16 ad.g3, .int .u16 ad.g4, .int .u16 ad.g5, .int .u16 ad.g6, .int .u16 ad.g7, .int .i64 ad.p] 59)
  obtain ⟨W1, hW1⟩ : ∃ X, X = (wA.alloc (.cells #[.slice pv.za P.zones.length pv.zc, .slice pv.fa P.fates.length pv.fc, .int .i64 P.ticks, .slice pv.da P.drops.length pv.dc] 26)).alloc (.cells #[.int .i8 ad.f, .int .u16 ad.g0, .int .u16 ad.g1, .int .u16 ad.g2, .int .u16 ad.g3, .int .u16 ad.g4, .int .u16 ad.g5, .int .u16 ad.g6, .int .u16 ad.g7, .int .i64 ad.p] 59) := ⟨_, rfl⟩
  rw [← hW1] at hl2 hb2 ⊢
  clear hW1
  rw [← hdx1] at hl2 ⊢
  obtain ⟨bx2, hdx2⟩ : ∃ b, b = bx1 + 1 := ⟨_, rfl⟩
  rw [← hdx2] at hl2 ⊢
  have hgex2 : wA.heap.size ≤ bx2 := by omega
  have hltx1x2 : bx1 < bx2 := by omega
  replace HB := Lib.hid (HB.out.trans (hb2.mono HB.out.size))
  replace Hx1 := Lib.hid hl2.1
  replace Hx2 := Lib.hid hl2.2
  clear hl2 hb2 hdx1 hdx2
  obtain ⟨⟨x1_c0, x1_c1, x1_c2, x1_c3⟩, x1_f0, x1_f1, x1_f2, x1_f3⟩ := box4 Hx1.out
  have HX := Lib.hid (HNw.out (fun b => b ∈ ([] : List Nat)) pv W1 (by intro b hb; simp only [List.mem_cons, List.not_mem_nil, or_false] at hb <;> omega) (HPL.out W1 HB.out))
  go_wp2_with fail
  with_reducible refine HX.out.mono ?_
  rintro e wB ⟨⟨p1, a11, c11, a12, c12, a13, c13, a14, c14⟩, rfl, hfl, hb⟩
  clear x1_c0 x1_c1 x1_c2 x1_c3 x1_f0 x1_f1 x1_f2 x1_f3
  replace Hx1 := Lib.hid ((hb.block _ (lt_of_block Hx1.out)).trans Hx1.out)
  replace Hx2 := Lib.hid ((hb.block _ (lt_of_block Hx2.out)).trans Hx2.out)
  replace HB := Lib.hid (HB.out.trans (hb.mono HB.out.size))
  have Hf3 := Lib.hid hfl
  clear hb hfl HX
  simp only [Wv.val, Wv.cells, Lt.v]
  obtain ⟨⟨x1_c0, x1_c1, x1_c2, x1_c3⟩, x1_f0, x1_f1, x1_f2, x1_f3⟩ := box4 Hx1.out
  go_upto_region 3 with fail
  clear x1_c0 x1_c1 x1_c2 x1_c3 x1_f0 x1_f1 x1_f2 x1_f3
  obtain ⟨bx3, hdx3⟩ : ∃ b, b = wB.heap.size := ⟨_, rfl⟩
  have hgex3 : wA.heap.size ≤ bx3 := by rw [hdx3]; exact HB.out.size
  have hltx1x3 : bx1 < bx3 := by rw [hdx3]; exact lt_of_block Hx1.out
  have hltx2x3 : bx2 < bx3 := by rw [hdx3]; exact lt_of_block Hx2.out
  obtain ⟨W2, hW2⟩ : ∃ X, X = wB.alloc (.cells #[.slice p1.za A0.plan.zones.length p1.zc, .slice p1.fa A0.plan.fates.length p1.fc, .int .i64 A0.plan.ticks, .slice p1.da A0.plan.drops.length p1.dc, .int .i64 A0.clock, .slice a11 A0.socks.length c11, .slice a12 A0.dials.length c12, .slice a13 A0.looks.length c13, .int .i64 A0.dropped, .slice a14 A0.marks.length c14] 32) := ⟨_, rfl⟩
  have hlx3 := laid1 wB (.cells #[.slice p1.za A0.plan.zones.length p1.zc, .slice p1.fa A0.plan.fates.length p1.fc, .int .i64 A0.plan.ticks, .slice p1.da A0.plan.drops.length p1.dc, .int .i64 A0.clock, .slice a11 A0.socks.length c11, .slice a12 A0.dials.length c12, .slice a13 A0.looks.length c13, .int .i64 A0.dropped, .slice a14 A0.marks.length c14] 32)
  have hbx3 := below1 wB (.cells #[.slice p1.za A0.plan.zones.length p1.zc, .slice p1.fa A0.plan.fates.length p1.fc, .int .i64 A0.plan.ticks, .slice p1.da A0.plan.drops.length p1.dc, .int .i64 A0.clock, .slice a11 A0.socks.length c11, .slice a12 A0.dials.length c12, .slice a13 A0.looks.length c13, .int .i64 A0.dropped, .slice a14 A0.marks.length c14] 32)
  rw [← hW2] at hlx3 hbx3 ⊢
  clear hW2
  replace Hf3 := Lib.hid (Hf3.out.more (M := (fun b => b ∈ ([bx3] : List Nat))) (by intro b hb; simp only [List.mem_cons, List.not_mem_nil, or_false] at hb ⊢ <;> (first | omega | (right; omega))))
  replace Hx1 := Lib.hid ((hbx3.block _ (lt_of_block Hx1.out)).trans Hx1.out)
  replace Hx2 := Lib.hid ((hbx3.block _ (lt_of_block Hx2.out)).trans Hx2.out)
  replace Hf3 := Lib.hid (Hf3.out.below hbx3)
  replace HB := Lib.hid (HB.out.trans (hbx3.mono HB.out.size))
  rw [← hdx3] at hlx3 ⊢
  replace Hx3 := Lib.hid hlx3
  clear hlx3 hbx3 hdx3
  obtain ⟨⟨x2_c0, x2_c1, x2_c2, x2_c3, x2_c4, x2_c5, x2_c6, x2_c7, x2_c8, x2_c9⟩, x2_f0, x2_f1, x2_f2, x2_f3, x2_f4, x2_f5, x2_f6, x2_f7, x2_f8, x2_f9⟩ := boxes10 Hx2.out
  obtain ⟨⟨x3_c0, x3_c1, x3_c2, x3_c3, x3_c4, x3_c5, x3_c6, x3_c7, x3_c8, x3_c9⟩, x3_f0, x3_f1, x3_f2, x3_f3, x3_f4, x3_f5, x3_f6, x3_f7, x3_f8, x3_f9⟩ := boxes10 Hx3.out
  have HX := Lib.hid (HDl.out (fun b => b ∈ ([bx3] : List Nat)) ⟨p1, a11, c11, a12, c12, a13, c13, a14, c14⟩ W2 (by have := lt_of_block Hx3.out; intro b hb; simp only [List.mem_cons, List.not_mem_nil, or_false] at hb <;> omega) Hf3.out)
  go_wp2_with fail
  with_reducible refine HX.out.mono ?_
  rintro e wC ⟨⟨p2, a21, c21, a22, c22, a23, c23, a24, c24⟩, rfl, hfl, hb⟩
  clear x2_c0 x2_c1 x2_c2 x2_c3 x2_c4 x2_c5 x2_c6 x2_c7 x2_c8 x2_c9 x2_f0 x2_f1 x2_f2 x2_f3 x2_f4 x2_f5 x2_f6 x2_f7 x2_f8 x2_f9 x3_c0 x3_c1 x3_c2 x3_c3 x3_c4 x3_c5 x3_c6 x3_c7 x3_c8 x3_c9 x3_f0 x3_f1 x3_f2 x3_f3 x3_f4 x3_f5 x3_f6 x3_f7 x3_f8 x3_f9
  replace Hx1 := Lib.hid ((hb.block _ (lt_of_block Hx1.out)).trans Hx1.out)
  replace Hx2 := Lib.hid ((hb.block _ (lt_of_block Hx2.out)).trans Hx2.out)
  replace Hx3 := Lib.hid ((hb.block _ (lt_of_block Hx3.out)).trans Hx3.out)
  replace HB := Lib.hid (HB.out.trans (hb.mono HB.out.size))
  have Hf3 := Lib.hid hfl
  clear hb hfl HX
  simp only [Wv.val, Wv.cells, Lt.v]
  obtain ⟨⟨x2_c0, x2_c1, x2_c2, x2_c3, x2_c4, x2_c5, x2_c6, x2_c7, x2_c8, x2_c9⟩, x2_f0, x2_f1, x2_f2, x2_f3, x2_f4, x2_f5, x2_f6, x2_f7, x2_f8, x2_f9⟩ := boxes10 Hx2.out
  obtain ⟨⟨x3_c0, x3_c1, x3_c2, x3_c3, x3_c4, x3_c5, x3_c6, x3_c7, x3_c8, x3_c9⟩, x3_f0, x3_f1, x3_f2, x3_f3, x3_f4, x3_f5, x3_f6, x3_f7, x3_f8, x3_f9⟩ := boxes10 Hx3.out
  go_upto_region 4 with fail
  clear x2_c0 x2_c1 x2_c2 x2_c3 x2_c4 x2_c5 x2_c6 x2_c7 x2_c8 x2_c9 x2_f0 x2_f1 x2_f2 x2_f3 x2_f4 x2_f5 x2_f6 x2_f7 x2_f8 x2_f9 x3_c0 x3_c1 x3_c2 x3_c3 x3_c4 x3_c5 x3_c6 x3_c7 x3_c8 x3_c9 x3_f0 x3_f1 x3_f2 x3_f3 x3_f4 x3_f5 x3_f6 x3_f7 x3_f8 x3_f9
  obtain ⟨W3, hW3⟩ : ∃ X, X = set10 wC bx3 (.slice p2.za A1.plan.zones.length p2.zc) (.slice p2.fa A1.plan.fates.length p2.fc) (.int .i64 A1.plan.ticks) (.slice p2.da A1.plan.drops.length p2.dc) (.int .i64 A1.clock) (.slice a21 A1.socks.length c21) (.slice a22 A1.dials.length c22) (.slice a23 A1.looks.length c23) (.int .i64 A1.dropped) (.slice a24 A1.marks.length c24) := ⟨_, rfl⟩
  have hqx3 := set10_at Hx3.out (.slice p2.za A1.plan.zones.length p2.zc) (.slice p2.fa A1.plan.fates.length p2.fc) (.int .i64 A1.plan.ticks) (.slice p2.da A1.plan.drops.length p2.dc) (.int .i64 A1.clock) (.slice a21 A1.socks.length c21) (.slice a22 A1.dials.length c22) (.slice a23 A1.looks.length c23) (.int .i64 A1.dropped) (.slice a24 A1.marks.length c24)
  have hb := set10_below HB.out hgex3 (.slice p2.za A1.plan.zones.length p2.zc) (.slice p2.fa A1.plan.fates.length p2.fc) (.int .i64 A1.plan.ticks) (.slice p2.da A1.plan.drops.length p2.dc) (.int .i64 A1.clock) (.slice a21 A1.socks.length c21) (.slice a22 A1.dials.length c22) (.slice a23 A1.looks.length c23) (.int .i64 A1.dropped) (.slice a24 A1.marks.length c24)
  have hqx1 := (set10_other wC bx3 bx1 (.slice p2.za A1.plan.zones.length p2.zc) (.slice p2.fa A1.plan.fates.length p2.fc) (.int .i64 A1.plan.ticks) (.slice p2.da A1.plan.drops.length p2.dc) (.int .i64 A1.clock) (.slice a21 A1.socks.length c21) (.slice a22 A1.dials.length c22) (.slice a23 A1.looks.length c23) (.int .i64 A1.dropped) (.slice a24 A1.marks.length c24) (by omega)).trans Hx1.out
  have hqx2 := (set10_other wC bx3 bx2 (.slice p2.za A1.plan.zones.length p2.zc) (.slice p2.fa A1.plan.fates.length p2.fc) (.int .i64 A1.plan.ticks) (.slice p2.da A1.plan.drops.length p2.dc) (.int .i64 A1.clock) (.slice a21 A1.socks.length c21) (.slice a22 A1.dials.length c22) (.slice a23 A1.looks.length c23) (.int .i64 A1.dropped) (.slice a24 A1.marks.length c24) (by omega)).trans Hx2.out
  have hqf3 := set10_flat (b := bx3) Hf3.out (by simp) (.slice p2.za A1.plan.zones.length p2.zc) (.slice p2.fa A1.plan.fates.length p2.fc) (.int .i64 A1.plan.ticks) (.slice p2.da A1.plan.drops.length p2.dc) (.int .i64 A1.clock) (.slice a21 A1.socks.length c21) (.slice a22 A1.dials.length c22) (.slice a23 A1.looks.length c23) (.int .i64 A1.dropped) (.slice a24 A1.marks.length c24)
  rw [← hW3] at hqx3 hb hqx1 hqx2 hqf3
  unfold set10 at hW3
  rw [← hW3]
  clear hW3
  replace HB := Lib.hid hb
  replace Hx1 := Lib.hid hqx1
  replace Hx2 := Lib.hid hqx2
  replace Hx3 := Lib.hid hqx3
  replace Hf3 := Lib.hid hqf3
  clear hqx3 hb hqx1 hqx2 hqf3
  obtain ⟨⟨x3_c0, x3_c1, x3_c2, x3_c3, x3_c4, x3_c5, x3_c6, x3_c7, x3_c8, x3_c9⟩, x3_f0, x3_f1, x3_f2, x3_f3, x3_f4, x3_f5, x3_f6, x3_f7, x3_f8, x3_f9⟩ := boxes10 Hx3.out
  have HX := Lib.hid (HRd1.out ⟨p2, a21, c21, a22, c22, a23, c23, a24, c24⟩ W3 Hf3.out.world)
  go_wp2_with fail
  with_reducible refine HX.out.mono ?_
  rintro e wD ⟨rfl, hb⟩
  clear x3_c0 x3_c1 x3_c2 x3_c3 x3_c4 x3_c5 x3_c6 x3_c7 x3_c8 x3_c9 x3_f0 x3_f1 x3_f2 x3_f3 x3_f4 x3_f5 x3_f6 x3_f7 x3_f8 x3_f9
  replace Hx1 := Lib.hid ((hb.block _ (lt_of_block Hx1.out)).trans Hx1.out)
  replace Hx2 := Lib.hid ((hb.block _ (lt_of_block Hx2.out)).trans Hx2.out)
  replace Hx3 := Lib.hid ((hb.block _ (lt_of_block Hx3.out)).trans Hx3.out)
  replace Hf3 := Lib.hid (Hf3.out.below hb)
  replace HB := Lib.hid (HB.out.trans (hb.mono HB.out.size))
  clear hb HX
  obtain ⟨⟨x3_c0, x3_c1, x3_c2, x3_c3, x3_c4, x3_c5, x3_c6, x3_c7, x3_c8, x3_c9⟩, x3_f0, x3_f1, x3_f2, x3_f3, x3_f4, x3_f5, x3_f6, x3_f7, x3_f8, x3_f9⟩ := boxes10 Hx3.out
  have HX := Lib.hid (HUn1.out ⟨p2, a21, c21, a22, c22, a23, c23, a24, c24⟩ wD Hf3.out.world)
  go_wp2_with fail
  with_reducible refine HX.out.mono ?_
  rintro e wE ⟨rfl, hb⟩
  clear x3_c0 x3_c1 x3_c2 x3_c3 x3_c4 x3_c5 x3_c6 x3_c7 x3_c8 x3_c9 x3_f0 x3_f1 x3_f2 x3_f3 x3_f4 x3_f5 x3_f6 x3_f7 x3_f8 x3_f9
  replace Hx1 := Lib.hid ((hb.block _ (lt_of_block Hx1.out)).trans Hx1.out)
  replace Hx2 := Lib.hid ((hb.block _ (lt_of_block Hx2.out)).trans Hx2.out)
  replace Hx3 := Lib.hid ((hb.block _ (lt_of_block Hx3.out)).trans Hx3.out)
  replace Hf3 := Lib.hid (Hf3.out.below hb)
  replace HB := Lib.hid (HB.out.trans (hb.mono HB.out.size))
  clear hb HX
  obtain ⟨⟨x3_c0, x3_c1, x3_c2, x3_c3, x3_c4, x3_c5, x3_c6, x3_c7, x3_c8, x3_c9⟩, x3_f0, x3_f1, x3_f2, x3_f3, x3_f4, x3_f5, x3_f6, x3_f7, x3_f8, x3_f9⟩ := boxes10 Hx3.out
  have HX := Lib.hid (HCt.out (fun b => b ∈ ([bx3] : List Nat)) ⟨p2, a21, c21, a22, c22, a23, c23, a24, c24⟩ wE (by have := lt_of_block Hx3.out; intro b hb; simp only [List.mem_cons, List.not_mem_nil, or_false] at hb <;> omega) Hf3.out)
  go_wp2_with fail
  with_reducible refine HX.out.mono ?_
  rintro e wF ⟨⟨p3, a31, c31, a32, c32, a33, c33, a34, c34⟩, rfl, hfl, hb⟩
  clear x3_c0 x3_c1 x3_c2 x3_c3 x3_c4 x3_c5 x3_c6 x3_c7 x3_c8 x3_c9 x3_f0 x3_f1 x3_f2 x3_f3 x3_f4 x3_f5 x3_f6 x3_f7 x3_f8 x3_f9
  replace Hx1 := Lib.hid ((hb.block _ (lt_of_block Hx1.out)).trans Hx1.out)
  replace Hx2 := Lib.hid ((hb.block _ (lt_of_block Hx2.out)).trans Hx2.out)
  replace Hx3 := Lib.hid ((hb.block _ (lt_of_block Hx3.out)).trans Hx3.out)
  replace HB := Lib.hid (HB.out.trans (hb.mono HB.out.size))
  have Hf3 := Lib.hid hfl
  clear hb hfl HX
  simp only [Wv.val, Wv.cells, Lt.v]
  obtain ⟨⟨x3_c0, x3_c1, x3_c2, x3_c3, x3_c4, x3_c5, x3_c6, x3_c7, x3_c8, x3_c9⟩, x3_f0, x3_f1, x3_f2, x3_f3, x3_f4, x3_f5, x3_f6, x3_f7, x3_f8, x3_f9⟩ := boxes10 Hx3.out
  go_upto_region 7 with fail
  clear x3_c0 x3_c1 x3_c2 x3_c3 x3_c4 x3_c5 x3_c6 x3_c7 x3_c8 x3_c9 x3_f0 x3_f1 x3_f2 x3_f3 x3_f4 x3_f5 x3_f6 x3_f7 x3_f8 x3_f9
  obtain ⟨W4, hW4⟩ : ∃ X, X = set10 wF bx3 (.slice p3.za A2.plan.zones.length p3.zc) (.slice p3.fa A2.plan.fates.length p3.fc) (.int .i64 A2.plan.ticks) (.slice p3.da A2.plan.drops.length p3.dc) (.int .i64 A2.clock) (.slice a31 A2.socks.length c31) (.slice a32 A2.dials.length c32) (.slice a33 A2.looks.length c33) (.int .i64 A2.dropped) (.slice a34 A2.marks.length c34) := ⟨_, rfl⟩
  have hqx3 := set10_at Hx3.out (.slice p3.za A2.plan.zones.length p3.zc) (.slice p3.fa A2.plan.fates.length p3.fc) (.int .i64 A2.plan.ticks) (.slice p3.da A2.plan.drops.length p3.dc) (.int .i64 A2.clock) (.slice a31 A2.socks.length c31) (.slice a32 A2.dials.length c32) (.slice a33 A2.looks.length c33) (.int .i64 A2.dropped) (.slice a34 A2.marks.length c34)
  have hb := set10_below HB.out hgex3 (.slice p3.za A2.plan.zones.length p3.zc) (.slice p3.fa A2.plan.fates.length p3.fc) (.int .i64 A2.plan.ticks) (.slice p3.da A2.plan.drops.length p3.dc) (.int .i64 A2.clock) (.slice a31 A2.socks.length c31) (.slice a32 A2.dials.length c32) (.slice a33 A2.looks.length c33) (.int .i64 A2.dropped) (.slice a34 A2.marks.length c34)
  have hqx1 := (set10_other wF bx3 bx1 (.slice p3.za A2.plan.zones.length p3.zc) (.slice p3.fa A2.plan.fates.length p3.fc) (.int .i64 A2.plan.ticks) (.slice p3.da A2.plan.drops.length p3.dc) (.int .i64 A2.clock) (.slice a31 A2.socks.length c31) (.slice a32 A2.dials.length c32) (.slice a33 A2.looks.length c33) (.int .i64 A2.dropped) (.slice a34 A2.marks.length c34) (by omega)).trans Hx1.out
  have hqx2 := (set10_other wF bx3 bx2 (.slice p3.za A2.plan.zones.length p3.zc) (.slice p3.fa A2.plan.fates.length p3.fc) (.int .i64 A2.plan.ticks) (.slice p3.da A2.plan.drops.length p3.dc) (.int .i64 A2.clock) (.slice a31 A2.socks.length c31) (.slice a32 A2.dials.length c32) (.slice a33 A2.looks.length c33) (.int .i64 A2.dropped) (.slice a34 A2.marks.length c34) (by omega)).trans Hx2.out
  have hqf3 := set10_flat (b := bx3) Hf3.out (by simp) (.slice p3.za A2.plan.zones.length p3.zc) (.slice p3.fa A2.plan.fates.length p3.fc) (.int .i64 A2.plan.ticks) (.slice p3.da A2.plan.drops.length p3.dc) (.int .i64 A2.clock) (.slice a31 A2.socks.length c31) (.slice a32 A2.dials.length c32) (.slice a33 A2.looks.length c33) (.int .i64 A2.dropped) (.slice a34 A2.marks.length c34)
  rw [← hW4] at hqx3 hb hqx1 hqx2 hqf3
  unfold set10 at hW4
  rw [← hW4]
  clear hW4
  replace HB := Lib.hid hb
  replace Hx1 := Lib.hid hqx1
  replace Hx2 := Lib.hid hqx2
  replace Hx3 := Lib.hid hqx3
  replace Hf3 := Lib.hid hqf3
  clear hqx3 hb hqx1 hqx2 hqf3
  obtain ⟨⟨x3_c0, x3_c1, x3_c2, x3_c3, x3_c4, x3_c5, x3_c6, x3_c7, x3_c8, x3_c9⟩, x3_f0, x3_f1, x3_f2, x3_f3, x3_f4, x3_f5, x3_f6, x3_f7, x3_f8, x3_f9⟩ := boxes10 Hx3.out
  have HX := Lib.hid (HEn.out (fun b => b ∈ ([bx3] : List Nat)) ⟨p3, a31, c31, a32, c32, a33, c33, a34, c34⟩ W4 (by have := lt_of_block Hx3.out; intro b hb; simp only [List.mem_cons, List.not_mem_nil, or_false] at hb <;> omega) Hf3.out)
  go_wp2_with fail
  with_reducible refine HX.out.mono ?_
  rintro e wG ⟨⟨p4, a41, c41, a42, c42, a43, c43, a44, c44⟩, rfl, hfl, hb⟩
  clear x3_c0 x3_c1 x3_c2 x3_c3 x3_c4 x3_c5 x3_c6 x3_c7 x3_c8 x3_c9 x3_f0 x3_f1 x3_f2 x3_f3 x3_f4 x3_f5 x3_f6 x3_f7 x3_f8 x3_f9
  replace Hx1 := Lib.hid ((hb.block _ (lt_of_block Hx1.out)).trans Hx1.out)
  replace Hx2 := Lib.hid ((hb.block _ (lt_of_block Hx2.out)).trans Hx2.out)
  replace Hx3 := Lib.hid ((hb.block _ (lt_of_block Hx3.out)).trans Hx3.out)
  replace Hf3 := Lib.hid (Hf3.out.below hb)
  replace HB := Lib.hid (HB.out.trans (hb.mono HB.out.size))
  have Hf6 := Lib.hid hfl
  clear hb hfl HX
  simp only [Wv.val, Wv.cells, Lt.v]
  obtain ⟨⟨x3_c0, x3_c1, x3_c2, x3_c3, x3_c4, x3_c5, x3_c6, x3_c7, x3_c8, x3_c9⟩, x3_f0, x3_f1, x3_f2, x3_f3, x3_f4, x3_f5, x3_f6, x3_f7, x3_f8, x3_f9⟩ := boxes10 Hx3.out
  go_upto_region 8 with fail
  clear x3_c0 x3_c1 x3_c2 x3_c3 x3_c4 x3_c5 x3_c6 x3_c7 x3_c8 x3_c9 x3_f0 x3_f1 x3_f2 x3_f3 x3_f4 x3_f5 x3_f6 x3_f7 x3_f8 x3_f9
  obtain ⟨bx6, hdx6⟩ : ∃ b, b = wG.heap.size := ⟨_, rfl⟩
  have hgex6 : wA.heap.size ≤ bx6 := by rw [hdx6]; exact HB.out.size
  have hl2 := laid2 wG (.cells #[.slice p4.za A3.plan.zones.length p4.zc, .slice p4.fa A3.plan.fates.length p4.fc, .int .i64 A3.plan.ticks, .slice p4.da A3.plan.drops.length p4.dc, .int .i64 A3.clock, .slice a41 A3.socks.length c41, .slice a42 A3.dials.length c42, .slice a43 A3.looks.length c43, .int .i64 A3.dropped, .slice a44 A3.marks.length c44] 32) (.cells #[.int .i8 M.kind, .int .i64 M.fr, .int .i64 M.num, .int .i64 M.sock, .string M.text, .int .i64 M.e] 42)
  have hb2 := below2 wG (.cells #[.slice p4.za A3.plan.zones.length p4.zc, .slice p4.fa A3.plan.fates.length p4.fc, .int .i64 A3.plan.ticks, .slice p4.da A3.plan.drops.length p4.dc, .int .i64 A3.clock, .slice a41 A3.socks.length c41, .slice a42 A3.dials.length c42, .slice a43 A3.looks.length c43, .int .i64 A3.dropped, .slice a44 A3.marks.length c44] 32) (.cells #[.int .i8 M.kind, .int .i64 M.fr, .int .i64 M.num, .int .i64 M.sock, .string M.text, .int .i64 M.e] 42)
  obtain ⟨W5, hW5⟩ : ∃ X, X = (wG.alloc (.cells #[.slice p4.za A3.plan.zones.length p4.zc, .slice p4.fa A3.plan.fates.length p4.fc, .int .i64 A3.plan.ticks, .slice p4.da A3.plan.drops.length p4.dc, .int .i64 A3.clock, .slice a41 A3.socks.length c41, .slice a42 A3.dials.length c42, .slice a43 A3.looks.length c43, .int .i64 A3.dropped, .slice a44 A3.marks.length c44] 32)).alloc (.cells #[.int .i8 M.kind, .int .i64 M.fr, .int .i64 M.num, .int .i64 M.sock, .string M.text, .int .i64 M.e] 42) := ⟨_, rfl⟩
  rw [← hW5] at hl2 hb2 ⊢
  clear hW5
  rw [← hdx6] at hl2 ⊢
  obtain ⟨bx7, hdx7⟩ : ∃ b, b = bx6 + 1 := ⟨_, rfl⟩
  rw [← hdx7] at hl2 ⊢
  have hgex7 : wA.heap.size ≤ bx7 := by omega
  have hltx6x7 : bx6 < bx7 := by omega
  have hltx1x6 : bx1 < bx6 := by have := lt_of_block Hx1.out; omega
  have hltx1x7 : bx1 < bx7 := by have := lt_of_block Hx1.out; omega
  have hltx2x6 : bx2 < bx6 := by have := lt_of_block Hx2.out; omega
  have hltx2x7 : bx2 < bx7 := by have := lt_of_block Hx2.out; omega
  have hltx3x6 : bx3 < bx6 := by have := lt_of_block Hx3.out; omega
  have hltx3x7 : bx3 < bx7 := by have := lt_of_block Hx3.out; omega
  replace Hf3 := Lib.hid (Hf3.out.more (M := (fun b => b ∈ ([bx3, bx6, bx7] : List Nat))) (by intro b hb; simp only [List.mem_cons, List.not_mem_nil, or_false] at hb ⊢ <;> (first | omega | (right; omega))))
  replace Hf6 := Lib.hid (Hf6.out.more (M := (fun b => b ∈ ([bx3, bx6, bx7] : List Nat))) (by intro b hb; simp only [List.mem_cons, List.not_mem_nil, or_false] at hb ⊢ <;> (first | omega | (right; omega))))
  replace Hx1 := Lib.hid ((hb2.block _ (lt_of_block Hx1.out)).trans Hx1.out)
  replace Hx2 := Lib.hid ((hb2.block _ (lt_of_block Hx2.out)).trans Hx2.out)
  replace Hx3 := Lib.hid ((hb2.block _ (lt_of_block Hx3.out)).trans Hx3.out)
  replace Hf3 := Lib.hid (Hf3.out.below hb2)
  replace Hf6 := Lib.hid (Hf6.out.below hb2)
  replace HB := Lib.hid (HB.out.trans (hb2.mono HB.out.size))
  replace Hx6 := Lib.hid hl2.1
  replace Hx7 := Lib.hid hl2.2
  clear hl2 hb2 hdx6 hdx7
  obtain ⟨⟨x3_c0, x3_c1, x3_c2, x3_c3, x3_c4, x3_c5, x3_c6, x3_c7, x3_c8, x3_c9⟩, x3_f0, x3_f1, x3_f2, x3_f3, x3_f4, x3_f5, x3_f6, x3_f7, x3_f8, x3_f9⟩ := boxes10 Hx3.out
  have HX := Lib.hid (HRd2.out ⟨p3, a31, c31, a32, c32, a33, c33, a34, c34⟩ W5 Hf3.out.world)
  go_wp2_with fail
  with_reducible refine HX.out.mono ?_
  rintro e wH ⟨rfl, hb⟩
  clear x3_c0 x3_c1 x3_c2 x3_c3 x3_c4 x3_c5 x3_c6 x3_c7 x3_c8 x3_c9 x3_f0 x3_f1 x3_f2 x3_f3 x3_f4 x3_f5 x3_f6 x3_f7 x3_f8 x3_f9
  replace Hx1 := Lib.hid ((hb.block _ (lt_of_block Hx1.out)).trans Hx1.out)
  replace Hx2 := Lib.hid ((hb.block _ (lt_of_block Hx2.out)).trans Hx2.out)
  replace Hx3 := Lib.hid ((hb.block _ (lt_of_block Hx3.out)).trans Hx3.out)
  replace Hx6 := Lib.hid ((hb.block _ (lt_of_block Hx6.out)).trans Hx6.out)
  replace Hx7 := Lib.hid ((hb.block _ (lt_of_block Hx7.out)).trans Hx7.out)
  replace Hf3 := Lib.hid (Hf3.out.below hb)
  replace Hf6 := Lib.hid (Hf6.out.below hb)
  replace HB := Lib.hid (HB.out.trans (hb.mono HB.out.size))
  clear hb HX
  have hbU := below1 wH (.cells #[.int .i8 ad.f, .int .u16 ad.g0, .int .u16 ad.g1, .int .u16 ad.g2, .int .u16 ad.g3, .int .u16 ad.g4, .int .u16 ad.g5, .int .u16 ad.g6, .int .u16 ad.g7, .int .i64 ad.p] 59)
  have HX := Lib.hid (HUn2.out ⟨p4, a41, c41, a42, c42, a43, c43, a44, c44⟩ (some ⟨wH.heap.size, 0, none⟩) 1 (wH.alloc (.cells #[.int .i8 ad.f, .int .u16 ad.g0, .int .u16 ad.g1, .int .u16 ad.g2, .int .u16 ad.g3, .int .u16 ad.g4, .int .u16 ad.g5, .int .u16 ad.g6, .int .u16 ad.g7, .int .i64 ad.p] 59)) (Hf6.out.world.below hbU) (HAl.out wH _ rfl))
  have hM := HM.out
  obtain ⟨⟨x2_c0, x2_c1, x2_c2, x2_c3, x2_c4, x2_c5, x2_c6, x2_c7, x2_c8, x2_c9⟩, x2_f0, x2_f1, x2_f2, x2_f3, x2_f4, x2_f5, x2_f6, x2_f7, x2_f8, x2_f9⟩ := boxes10 Hx2.out
  obtain ⟨⟨x6_c0, x6_c1, x6_c2, x6_c3, x6_c4, x6_c5, x6_c6, x6_c7, x6_c8, x6_c9⟩, x6_f0, x6_f1, x6_f2, x6_f3, x6_f4, x6_f5, x6_f6, x6_f7, x6_f8, x6_f9⟩ := boxes10 Hx6.out
  obtain ⟨⟨x7_c0, x7_c1, x7_c2, x7_c3, x7_c4, x7_c5⟩, x7_f0, x7_f1, x7_f2, x7_f3, x7_f4, x7_f5⟩ := boxes6 Hx7.out
  go_wp2_with fail
  with_reducible refine HX.out.mono ?_
  rintro e wI ⟨rfl, hb0⟩
  have hb := hbU.trans (hb0.mono hbU.size)
  clear x2_c0 x2_c1 x2_c2 x2_c3 x2_c4 x2_c5 x2_c6 x2_c7 x2_c8 x2_c9 x2_f0 x2_f1 x2_f2 x2_f3 x2_f4 x2_f5 x2_f6 x2_f7 x2_f8 x2_f9 x6_c0 x6_c1 x6_c2 x6_c3 x6_c4 x6_c5 x6_c6 x6_c7 x6_c8 x6_c9 x6_f0 x6_f1 x6_f2 x6_f3 x6_f4 x6_f5 x6_f6 x6_f7 x6_f8 x6_f9 x7_c0 x7_c1 x7_c2 x7_c3 x7_c4 x7_c5 x7_f0 x7_f1 x7_f2 x7_f3 x7_f4 x7_f5
  replace Hx1 := Lib.hid ((hb.block _ (lt_of_block Hx1.out)).trans Hx1.out)
  replace Hx2 := Lib.hid ((hb.block _ (lt_of_block Hx2.out)).trans Hx2.out)
  replace Hx3 := Lib.hid ((hb.block _ (lt_of_block Hx3.out)).trans Hx3.out)
  replace Hx6 := Lib.hid ((hb.block _ (lt_of_block Hx6.out)).trans Hx6.out)
  replace Hx7 := Lib.hid ((hb.block _ (lt_of_block Hx7.out)).trans Hx7.out)
  replace Hf3 := Lib.hid (Hf3.out.below hb)
  replace Hf6 := Lib.hid (Hf6.out.below hb)
  replace HB := Lib.hid (HB.out.trans (hb.mono HB.out.size))
  clear hb hb0 hbU HX hM
  have hS3 := HS3.out
  obtain ⟨⟨x6_c0, x6_c1, x6_c2, x6_c3, x6_c4, x6_c5, x6_c6, x6_c7, x6_c8, x6_c9⟩, x6_f0, x6_f1, x6_f2, x6_f3, x6_f4, x6_f5, x6_f6, x6_f7, x6_f8, x6_f9⟩ := boxes10 Hx6.out
  have HBf := Lib.hid (HBA.out.trans (HB.out.mono HBA.out.size))
  go_wp2_with fail
  go_ret
  exact ⟨by first | rfl | simp, HBf.out⟩
end Go.Proofs.YtciohjgcndgiaaaGreatDoor
