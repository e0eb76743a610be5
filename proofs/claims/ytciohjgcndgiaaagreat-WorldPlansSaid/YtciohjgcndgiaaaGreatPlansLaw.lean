/- New worlds, ticks, drops: as the document says. -/
import Derived.Test.YtciohjgcndgiaaaGreatNew
import Derived.Test.YtciohjgcndgiaaaGreatWorldGreat
import Derived.Test.YtciohjgcndgiaaaGreatSpecs
set_option linter.unusedSimpArgs false
set_option linter.unusedVariables false
namespace Go.Proofs.YtciohjgcndgiaaaGreat
open Go.RowKit Go.Proofs.YtciohjgcndgiaaaGreat.Kind

theorem new_fit {R : Rules} {P : Pl} (h : FatesFit P) : FatesFit (newP R P).plan := by
  unfold newP
  split
  · exact h
  · intro f hf
    simp [Wo.new, Pl.zero] at hf
theorem tick_plan (A : Wo) : (tickP A).plan = A.plan := by unfold tickP; split <;> rfl
theorem drop_plan (A : Wo) : (dropP A).plan = A.plan := by unfold dropP; split <;> rfl
theorem no_n {b : Nat} (h : (fun _ : Nat => False) b) (k : Nat) : b < k := h.elim
set_option maxHeartbeats 40000000 in
set_option maxRecDepth 1000000 in
theorem worldplans_walk (R : Rules) (HNew : NewSpec R) (HRC : RefCheckSpec R) (HTick : TickSpec) (HDrop : DropSpec) (HWk : WakesSpec) (P : Pl) (pv : Pv) (A : Wo) (v : Wv) (w : World) (hM : Mem P) (hMA : Mem A.plan) (htk : A.plan.ticks ≤ 9223372036854775807) (hck : -9223372036854775808 ≤ A.clock ∧ A.clock ≤ 9223372036854775807) (hP : PlanC w pv P) (hA : WorldC w v A) :
    Calls Tryz.prog 3 #[pv.val P, v.val A] w fun e w' => e = .returned (.bool true) ∧ Below w.heap.size w w' := by
  have HWk := Lib.hid (fun w => HWk w)
  have HPL := Lib.hid (fun (W : World) (h : Below w.heap.size w W) => hP.below h)
  have HPN := Lib.hid (fun (N : Nat → Prop) (W : World) (hN : ∀ b, N b → w.heap.size ≤ b) (h : Below w.heap.size w W) => (hP.firm hN).below h)
  have HAL := Lib.hid (fun (W : World) (h : Below w.heap.size w W) => hA.below h)
  have HAF := Lib.hid (hA.flat)
  have hFP : FatesFit P := hM.fates
  have hFA : FatesFit A.plan := hMA.fates
  have HMm := Lib.hid hM
  have HFP := Lib.hid hFP
  have HFA := Lib.hid hFA
  obtain ⟨A0, hA0⟩ : ∃ X, X = newP R P := ⟨_, rfl⟩
  obtain ⟨r0, hr0⟩ : ∃ X, X = newE R P := ⟨_, rfl⟩
  obtain ⟨A1, hA1⟩ : ∃ X, X = tickP A := ⟨_, rfl⟩
  obtain ⟨r1, hr1⟩ : ∃ X, X = tickE A := ⟨_, rfl⟩
  obtain ⟨A2, hA2⟩ : ∃ X, X = dropP A := ⟨_, rfl⟩
  obtain ⟨r2, hr2⟩ : ∃ X, X = dropE A := ⟨_, rfl⟩
  have HF0 := Lib.hid (show FatesFit A0.plan from by rw [hA0]; exact new_fit hFP)
  have HF1 := Lib.hid (show FatesFit A1.plan from by rw [hA1, tick_plan]; exact hFA)
  have HF2 := Lib.hid (show FatesFit A2.plan from by rw [hA2, drop_plan]; exact hFA)
  have HN1 := Lib.hid (fun N w hN hf hp => HNew N P pv w A0 r0 hN hf hp hA0 hr0)
  have HN2 := Lib.hid (fun N w hf hp => ref_new N R HRC P pv w A0 r0 hf hp hA0 hr0)
  have HT1 := Lib.hid (fun N w hN hR hf => HTick N A v w A1 r1 hN hR hf hA1 hr1)
  have HT2 := Lib.hid (fun N w hR hf => ref_tick N A v w A1 r1 hR hf hA1 hr1)
  have HR1 := Lib.hid (fun N w hN hR hf => HDrop N A v w A2 r2 hN hR hf hA2 hr2)
  have HR2 := Lib.hid (fun N w hN hR hf => ref_drop N A v w A2 r2 hN hR hf hA2 hr2)
  have HGp := Lib.hid (fun w h => great_any pv P w h)
  have HGw := Lib.hid (fun w h => great_world A v w h)
  clear HNew HRC HTick HDrop hP hA hFP hFA hA0 hr0 hA1 hr1 hA2 hr2
  simp only [Pv.val, Wv.val, Wv.cells] at HN1 HN2 HT1 HT2 HR1 HR2 HGp HGw ⊢
  go_enter Tryz.func3, Tryz.ntmps3
  go_upto_region 1 with fail
  have HB := Lib.hid (Below.refl w.heap.size w)
  have hb := below2 w (.cells #[.slice pv.za P.zones.length pv.zc, .slice pv.fa P.fates.length pv.fc, .int .i64 P.ticks, .slice pv.da P.drops.length pv.dc] 26) (.cells #[.slice v.p.za A.plan.zones.length v.p.zc, .slice v.p.fa A.plan.fates.length v.p.fc, .int .i64 A.plan.ticks, .slice v.p.da A.plan.drops.length v.p.dc, .int .i64 A.clock, .slice v.sa A.socks.length v.sc, .slice v.ia A.dials.length v.ic, .slice v.la A.looks.length v.lc, .int .i64 A.dropped, .slice v.ma A.marks.length v.mc] 32)
  have hL := laid2 w (.cells #[.slice pv.za P.zones.length pv.zc, .slice pv.fa P.fates.length pv.fc, .int .i64 P.ticks, .slice pv.da P.drops.length pv.dc] 26) (.cells #[.slice v.p.za A.plan.zones.length v.p.zc, .slice v.p.fa A.plan.fates.length v.p.fc, .int .i64 A.plan.ticks, .slice v.p.da A.plan.drops.length v.p.dc, .int .i64 A.clock, .slice v.sa A.socks.length v.sc, .slice v.ia A.dials.length v.ic, .slice v.la A.looks.length v.lc, .int .i64 A.dropped, .slice v.ma A.marks.length v.mc] 32)
  obtain ⟨w1, hw1⟩ : ∃ w1, w1 = (w.alloc (.cells #[.slice pv.za P.zones.length pv.zc, .slice pv.fa P.fates.length pv.fc, .int .i64 P.ticks, .slice pv.da P.drops.length pv.dc] 26)).alloc (.cells #[.slice v.p.za A.plan.zones.length v.p.zc, .slice v.p.fa A.plan.fates.length v.p.fc, .int .i64 A.plan.ticks, .slice v.p.da A.plan.drops.length v.p.dc, .int .i64 A.clock, .slice v.sa A.socks.length v.sc, .slice v.ia A.dials.length v.ic, .slice v.la A.looks.length v.lc, .int .i64 A.dropped, .slice v.ma A.marks.length v.mc] 32) := ⟨_, rfl⟩
  have hSZ : w1.heap.size = w.heap.size + 2 := by rw [hw1]; simp
  rw [← hw1] at hb hL ⊢
  clear hw1
  generalize hG1 : w.heap.size + 1 = G1 at *
  have HB := Lib.hid hb
  have Hpb := Lib.hid hL.1
  have Hwb := Lib.hid hL.2
  clear hL hb
  obtain ⟨⟨pb_c0, pb_c1, pb_c2, pb_c3⟩, pb_f0, pb_f1, pb_f2, pb_f3⟩ := box4 Hpb.out
  obtain ⟨⟨wb_c0, wb_c1, wb_c2, wb_c3, wb_c4, wb_c5, wb_c6, wb_c7, wb_c8, wb_c9⟩, wb_f0, wb_f1, wb_f2, wb_f3, wb_f4, wb_f5, wb_f6, wb_f7, wb_f8, wb_f9⟩ := boxes10 Hwb.out
  have HX := Lib.hid (HGp.out w1 (HPL.out w1 HB.out))
  go_wp2_with fail
  with_reducible refine HX.out.mono ?_
  rintro e w2 ⟨⟨rp, rfl, hfew⟩, hb⟩
  have HFE := Lib.hid hfew
  clear hfew HX
  clear pb_c0 pb_c1 pb_c2 pb_c3 pb_f0 pb_f1 pb_f2 pb_f3 wb_c0 wb_c1 wb_c2 wb_c3 wb_c4 wb_c5 wb_c6 wb_c7 wb_c8 wb_c9 wb_f0 wb_f1 wb_f2 wb_f3 wb_f4 wb_f5 wb_f6 wb_f7 wb_f8 wb_f9
  replace Hpb := Lib.hid ((hb.block _ (lt_of_block Hpb.out)).trans Hpb.out)
  replace Hwb := Lib.hid ((hb.block _ (lt_of_block Hwb.out)).trans Hwb.out)
  replace HB := Lib.hid (HB.out.trans (hb.mono HB.out.size))
  clear hb HGp
  cases rp with
  | true =>
    obtain ⟨⟨pb_c0, pb_c1, pb_c2, pb_c3⟩, pb_f0, pb_f1, pb_f2, pb_f3⟩ := box4 Hpb.out
    obtain ⟨⟨wb_c0, wb_c1, wb_c2, wb_c3, wb_c4, wb_c5, wb_c6, wb_c7, wb_c8, wb_c9⟩, wb_f0, wb_f1, wb_f2, wb_f3, wb_f4, wb_f5, wb_f6, wb_f7, wb_f8, wb_f9⟩ := boxes10 Hwb.out
    go_wp2_with fail
    with_reducible refine (HWk.out _).mono ?_
    rintro e wf ⟨rfl, hb⟩
    have HBf := Lib.hid (HB.out.trans (hb.mono HB.out.size))
    clear hb
    clear pb_c0 pb_c1 pb_c2 pb_c3 pb_f0 pb_f1 pb_f2 pb_f3 wb_c0 wb_c1 wb_c2 wb_c3 wb_c4 wb_c5 wb_c6 wb_c7 wb_c8 wb_c9 wb_f0 wb_f1 wb_f2 wb_f3 wb_f4 wb_f5 wb_f6 wb_f7 wb_f8 wb_f9
    go_wp2_with fail
    go_ret
    exact ⟨rfl, HBf.out⟩
  | false =>
    obtain ⟨⟨pb_c0, pb_c1, pb_c2, pb_c3⟩, pb_f0, pb_f1, pb_f2, pb_f3⟩ := box4 Hpb.out
    obtain ⟨⟨wb_c0, wb_c1, wb_c2, wb_c3, wb_c4, wb_c5, wb_c6, wb_c7, wb_c8, wb_c9⟩, wb_f0, wb_f1, wb_f2, wb_f3, wb_f4, wb_f5, wb_f6, wb_f7, wb_f8, wb_f9⟩ := boxes10 Hwb.out
    have HX := Lib.hid (HGw.out w2 (HAL.out w2 HB.out))
    go_wp2_with fail
    with_reducible refine HX.out.mono ?_
    rintro e w3 ⟨⟨rw_, rfl, hfew⟩, hb⟩
    have HWE := Lib.hid hfew
    clear hfew HX
    clear pb_c0 pb_c1 pb_c2 pb_c3 pb_f0 pb_f1 pb_f2 pb_f3 wb_c0 wb_c1 wb_c2 wb_c3 wb_c4 wb_c5 wb_c6 wb_c7 wb_c8 wb_c9 wb_f0 wb_f1 wb_f2 wb_f3 wb_f4 wb_f5 wb_f6 wb_f7 wb_f8 wb_f9
    replace Hpb := Lib.hid ((hb.block _ (lt_of_block Hpb.out)).trans Hpb.out)
    replace Hwb := Lib.hid ((hb.block _ (lt_of_block Hwb.out)).trans Hwb.out)
    replace HB := Lib.hid (HB.out.trans (hb.mono HB.out.size))
    clear hb HGw
    cases rw_ with
    | true =>
      obtain ⟨⟨pb_c0, pb_c1, pb_c2, pb_c3⟩, pb_f0, pb_f1, pb_f2, pb_f3⟩ := box4 Hpb.out
      obtain ⟨⟨wb_c0, wb_c1, wb_c2, wb_c3, wb_c4, wb_c5, wb_c6, wb_c7, wb_c8, wb_c9⟩, wb_f0, wb_f1, wb_f2, wb_f3, wb_f4, wb_f5, wb_f6, wb_f7, wb_f8, wb_f9⟩ := boxes10 Hwb.out
      go_wp2_with fail
      with_reducible refine (HWk.out _).mono ?_
      rintro e wf ⟨rfl, hb⟩
      have HBf := Lib.hid (HB.out.trans (hb.mono HB.out.size))
      clear hb
      clear pb_c0 pb_c1 pb_c2 pb_c3 pb_f0 pb_f1 pb_f2 pb_f3 wb_c0 wb_c1 wb_c2 wb_c3 wb_c4 wb_c5 wb_c6 wb_c7 wb_c8 wb_c9 wb_f0 wb_f1 wb_f2 wb_f3 wb_f4 wb_f5 wb_f6 wb_f7 wb_f8 wb_f9
      go_wp2_with fail
      go_ret
      exact ⟨rfl, HBf.out⟩
    | false =>
      have HFew := Lib.hid (HFE.out (by trivial))
      have HRm := Lib.hid (show Room A from have h := HWE.out (by trivial); ⟨hMA, h.few, h.socks, h.marks, h.dials, h.looks, htk, hck⟩)
      clear HFE HWE
      obtain ⟨⟨pb_c0, pb_c1, pb_c2, pb_c3⟩, pb_f0, pb_f1, pb_f2, pb_f3⟩ := box4 Hpb.out
      have HX := Lib.hid (HN1.out (fun b => b ∈ ([] : List Nat)) w3 (by intro b hb; simp only [List.mem_cons, List.not_mem_nil, or_false] at hb <;> omega) HMm.out (HPL.out w3 HB.out))
      go_wp2_with fail
      with_reducible refine HX.out.mono ?_
      rintro e w4 ⟨⟨p5, a51, c51, a52, c52, a53, c53, a54, c54⟩, rfl, hfl, hb⟩
      clear pb_c0 pb_c1 pb_c2 pb_c3 pb_f0 pb_f1 pb_f2 pb_f3
      replace Hpb := Lib.hid ((hb.block _ (lt_of_block Hpb.out)).trans Hpb.out)
      replace Hwb := Lib.hid ((hb.block _ (lt_of_block Hwb.out)).trans Hwb.out)
      replace HB := Lib.hid (HB.out.trans (hb.mono HB.out.size))
      have Hf5 := Lib.hid hfl
      clear hb hfl HX
      simp only [Wv.val, Wv.cells]
      clear HN1
      obtain ⟨⟨pb_c0, pb_c1, pb_c2, pb_c3⟩, pb_f0, pb_f1, pb_f2, pb_f3⟩ := box4 Hpb.out
      go_upto_region 4 with fail
      clear pb_c0 pb_c1 pb_c2 pb_c3 pb_f0 pb_f1 pb_f2 pb_f3
      obtain ⟨bx5, hdx5⟩ : ∃ b, b = w4.heap.size := ⟨_, rfl⟩
      have hgex5 : w.heap.size ≤ bx5 := by rw [hdx5]; exact HB.out.size
      have hltpbx5 : w.heap.size < bx5 := by rw [hdx5]; exact lt_of_block Hpb.out
      have hltwbx5 : G1 < bx5 := by rw [hdx5]; exact lt_of_block Hwb.out
      obtain ⟨W1, hW1⟩ : ∃ X, X = w4.alloc (.cells #[.slice p5.za A0.plan.zones.length p5.zc, .slice p5.fa A0.plan.fates.length p5.fc, .int .i64 A0.plan.ticks, .slice p5.da A0.plan.drops.length p5.dc, .int .i64 A0.clock, .slice a51 A0.socks.length c51, .slice a52 A0.dials.length c52, .slice a53 A0.looks.length c53, .int .i64 A0.dropped, .slice a54 A0.marks.length c54] 32) := ⟨_, rfl⟩
      have hlx5 := laid1 w4 (.cells #[.slice p5.za A0.plan.zones.length p5.zc, .slice p5.fa A0.plan.fates.length p5.fc, .int .i64 A0.plan.ticks, .slice p5.da A0.plan.drops.length p5.dc, .int .i64 A0.clock, .slice a51 A0.socks.length c51, .slice a52 A0.dials.length c52, .slice a53 A0.looks.length c53, .int .i64 A0.dropped, .slice a54 A0.marks.length c54] 32)
      have hbx5 := below1 w4 (.cells #[.slice p5.za A0.plan.zones.length p5.zc, .slice p5.fa A0.plan.fates.length p5.fc, .int .i64 A0.plan.ticks, .slice p5.da A0.plan.drops.length p5.dc, .int .i64 A0.clock, .slice a51 A0.socks.length c51, .slice a52 A0.dials.length c52, .slice a53 A0.looks.length c53, .int .i64 A0.dropped, .slice a54 A0.marks.length c54] 32)
      rw [← hW1] at hlx5 hbx5 ⊢
      clear hW1
      replace Hf5 := Lib.hid (Hf5.out.more (M := (fun b => b ∈ ([bx5] : List Nat))) (by intro b hb; simp only [List.mem_cons, List.not_mem_nil, or_false] at hb ⊢ <;> (first | omega | (right; omega))))
      replace Hpb := Lib.hid ((hbx5.block _ (lt_of_block Hpb.out)).trans Hpb.out)
      replace Hwb := Lib.hid ((hbx5.block _ (lt_of_block Hwb.out)).trans Hwb.out)
      replace Hf5 := Lib.hid (Hf5.out.below hbx5)
      replace HB := Lib.hid (HB.out.trans (hbx5.mono HB.out.size))
      rw [← hdx5] at hlx5 ⊢
      replace Hx5 := Lib.hid hlx5
      clear hlx5 hbx5 hdx5
      obtain ⟨⟨pb_c0, pb_c1, pb_c2, pb_c3⟩, pb_f0, pb_f1, pb_f2, pb_f3⟩ := box4 Hpb.out
      have HX := Lib.hid (HN2.out (fun b => b ∈ ([bx5] : List Nat)) W1 HFew.out (HPN.out _ W1 (by intro b hb; simp only [List.mem_cons, List.not_mem_nil, or_false] at hb <;> omega) HB.out))
      go_wp2_with fail
      with_reducible refine HX.out.mono ?_
      rintro e w5 ⟨⟨p7, a71, c71, a72, c72, a73, c73, a74, c74⟩, rfl, hfl, hb⟩
      clear pb_c0 pb_c1 pb_c2 pb_c3 pb_f0 pb_f1 pb_f2 pb_f3
      replace Hpb := Lib.hid ((hb.block _ (lt_of_block Hpb.out)).trans Hpb.out)
      replace Hwb := Lib.hid ((hb.block _ (lt_of_block Hwb.out)).trans Hwb.out)
      replace Hx5 := Lib.hid ((hb.block _ (lt_of_block Hx5.out)).trans Hx5.out)
      replace Hf5 := Lib.hid (Hf5.out.below hb)
      replace HB := Lib.hid (HB.out.trans (hb.mono HB.out.size))
      have Hf7 := Lib.hid hfl
      clear hb hfl HX
      simp only [Wv.val, Wv.cells]
      clear HN2
      obtain ⟨⟨pb_c0, pb_c1, pb_c2, pb_c3⟩, pb_f0, pb_f1, pb_f2, pb_f3⟩ := box4 Hpb.out
      go_upto_region 5 with fail
      clear pb_c0 pb_c1 pb_c2 pb_c3 pb_f0 pb_f1 pb_f2 pb_f3
      obtain ⟨bx7, hdx7⟩ : ∃ b, b = w5.heap.size := ⟨_, rfl⟩
      have hgex7 : w.heap.size ≤ bx7 := by rw [hdx7]; exact HB.out.size
      have hltpbx7 : w.heap.size < bx7 := by rw [hdx7]; exact lt_of_block Hpb.out
      have hltwbx7 : G1 < bx7 := by rw [hdx7]; exact lt_of_block Hwb.out
      have hltx5x7 : bx5 < bx7 := by rw [hdx7]; exact lt_of_block Hx5.out
      obtain ⟨W2, hW2⟩ : ∃ X, X = w5.alloc (.cells #[.slice p7.za A0.plan.zones.length p7.zc, .slice p7.fa A0.plan.fates.length p7.fc, .int .i64 A0.plan.ticks, .slice p7.da A0.plan.drops.length p7.dc, .int .i64 A0.clock, .slice a71 A0.socks.length c71, .slice a72 A0.dials.length c72, .slice a73 A0.looks.length c73, .int .i64 A0.dropped, .slice a74 A0.marks.length c74] 32) := ⟨_, rfl⟩
      have hlx7 := laid1 w5 (.cells #[.slice p7.za A0.plan.zones.length p7.zc, .slice p7.fa A0.plan.fates.length p7.fc, .int .i64 A0.plan.ticks, .slice p7.da A0.plan.drops.length p7.dc, .int .i64 A0.clock, .slice a71 A0.socks.length c71, .slice a72 A0.dials.length c72, .slice a73 A0.looks.length c73, .int .i64 A0.dropped, .slice a74 A0.marks.length c74] 32)
      have hbx7 := below1 w5 (.cells #[.slice p7.za A0.plan.zones.length p7.zc, .slice p7.fa A0.plan.fates.length p7.fc, .int .i64 A0.plan.ticks, .slice p7.da A0.plan.drops.length p7.dc, .int .i64 A0.clock, .slice a71 A0.socks.length c71, .slice a72 A0.dials.length c72, .slice a73 A0.looks.length c73, .int .i64 A0.dropped, .slice a74 A0.marks.length c74] 32)
      rw [← hW2] at hlx7 hbx7 ⊢
      clear hW2
      replace Hf5 := Lib.hid (Hf5.out.more (M := (fun b => b ∈ ([bx5, bx7] : List Nat))) (by intro b hb; simp only [List.mem_cons, List.not_mem_nil, or_false] at hb ⊢ <;> (first | omega | (right; omega))))
      replace Hf7 := Lib.hid (Hf7.out.more (M := (fun b => b ∈ ([bx5, bx7] : List Nat))) (by intro b hb; simp only [List.mem_cons, List.not_mem_nil, or_false] at hb ⊢ <;> (first | omega | (right; omega))))
      replace Hpb := Lib.hid ((hbx7.block _ (lt_of_block Hpb.out)).trans Hpb.out)
      replace Hwb := Lib.hid ((hbx7.block _ (lt_of_block Hwb.out)).trans Hwb.out)
      replace Hx5 := Lib.hid ((hbx7.block _ (lt_of_block Hx5.out)).trans Hx5.out)
      replace Hf5 := Lib.hid (Hf5.out.below hbx7)
      replace Hf7 := Lib.hid (Hf7.out.below hbx7)
      replace HB := Lib.hid (HB.out.trans (hbx7.mono HB.out.size))
      rw [← hdx7] at hlx7 ⊢
      replace Hx7 := Lib.hid hlx7
      clear hlx7 hbx7 hdx7
      obtain ⟨⟨x5_c0, x5_c1, x5_c2, x5_c3, x5_c4, x5_c5, x5_c6, x5_c7, x5_c8, x5_c9⟩, x5_f0, x5_f1, x5_f2, x5_f3, x5_f4, x5_f5, x5_f6, x5_f7, x5_f8, x5_f9⟩ := boxes10 Hx5.out
      obtain ⟨⟨x7_c0, x7_c1, x7_c2, x7_c3, x7_c4, x7_c5, x7_c6, x7_c7, x7_c8, x7_c9⟩, x7_f0, x7_f1, x7_f2, x7_f3, x7_f4, x7_f5, x7_f6, x7_f7, x7_f8, x7_f9⟩ := boxes10 Hx7.out
      have HX := Lib.hid (world_same A0 ⟨p5, a51, c51, a52, c52, a53, c53, a54, c54⟩ ⟨p7, a71, c71, a72, c72, a73, c73, a74, c74⟩ W2 HF0.out Hf5.out.world Hf7.out.world)
      simp only [Wv.val, Wv.cells] at HX
      go_wp2_with fail
      with_reducible refine HX.out.mono ?_
      rintro e w6 ⟨rfl, hb⟩
      clear x5_c0 x5_c1 x5_c2 x5_c3 x5_c4 x5_c5 x5_c6 x5_c7 x5_c8 x5_c9 x5_f0 x5_f1 x5_f2 x5_f3 x5_f4 x5_f5 x5_f6 x5_f7 x5_f8 x5_f9 x7_c0 x7_c1 x7_c2 x7_c3 x7_c4 x7_c5 x7_c6 x7_c7 x7_c8 x7_c9 x7_f0 x7_f1 x7_f2 x7_f3 x7_f4 x7_f5 x7_f6 x7_f7 x7_f8 x7_f9
      replace Hpb := Lib.hid ((hb.block _ (lt_of_block Hpb.out)).trans Hpb.out)
      replace Hwb := Lib.hid ((hb.block _ (lt_of_block Hwb.out)).trans Hwb.out)
      replace Hx5 := Lib.hid ((hb.block _ (lt_of_block Hx5.out)).trans Hx5.out)
      replace Hx7 := Lib.hid ((hb.block _ (lt_of_block Hx7.out)).trans Hx7.out)
      replace Hf5 := Lib.hid (Hf5.out.below hb)
      replace Hf7 := Lib.hid (Hf7.out.below hb)
      replace HB := Lib.hid (HB.out.trans (hb.mono HB.out.size))
      clear hb HX
      clear HF0
      obtain ⟨⟨wb_c0, wb_c1, wb_c2, wb_c3, wb_c4, wb_c5, wb_c6, wb_c7, wb_c8, wb_c9⟩, wb_f0, wb_f1, wb_f2, wb_f3, wb_f4, wb_f5, wb_f6, wb_f7, wb_f8, wb_f9⟩ := boxes10 Hwb.out
      obtain ⟨⟨x5_c0, x5_c1, x5_c2, x5_c3, x5_c4, x5_c5, x5_c6, x5_c7, x5_c8, x5_c9⟩, x5_f0, x5_f1, x5_f2, x5_f3, x5_f4, x5_f5, x5_f6, x5_f7, x5_f8, x5_f9⟩ := boxes10 Hx5.out
      have HX := Lib.hid (HT1.out (fun b => b ∈ ([bx5, bx7] : List Nat)) w6 (by have := lt_of_block Hx5.out; have := lt_of_block Hx7.out; intro b hb; simp only [List.mem_cons, List.not_mem_nil, or_false] at hb <;> omega) HRm.out ((HAF.out.more (M := (fun b => b ∈ ([bx5, bx7] : List Nat))) (by intro b hb; simp only [List.mem_cons, List.not_mem_nil, or_false] at hb ⊢ <;> (first | omega | (right; omega)))).below HB.out))
      go_wp2_with fail
      with_reducible refine HX.out.mono ?_
      rintro e w7 ⟨⟨p1, a11, c11, a12, c12, a13, c13, a14, c14⟩, rfl, hfl, hb⟩
      clear wb_c0 wb_c1 wb_c2 wb_c3 wb_c4 wb_c5 wb_c6 wb_c7 wb_c8 wb_c9 wb_f0 wb_f1 wb_f2 wb_f3 wb_f4 wb_f5 wb_f6 wb_f7 wb_f8 wb_f9 x5_c0 x5_c1 x5_c2 x5_c3 x5_c4 x5_c5 x5_c6 x5_c7 x5_c8 x5_c9 x5_f0 x5_f1 x5_f2 x5_f3 x5_f4 x5_f5 x5_f6 x5_f7 x5_f8 x5_f9
      replace Hpb := Lib.hid ((hb.block _ (lt_of_block Hpb.out)).trans Hpb.out)
      replace Hwb := Lib.hid ((hb.block _ (lt_of_block Hwb.out)).trans Hwb.out)
      replace Hx5 := Lib.hid ((hb.block _ (lt_of_block Hx5.out)).trans Hx5.out)
      replace Hx7 := Lib.hid ((hb.block _ (lt_of_block Hx7.out)).trans Hx7.out)
      replace Hf7 := Lib.hid (Hf7.out.below hb)
      replace HB := Lib.hid (HB.out.trans (hb.mono HB.out.size))
      have Hf5 := Lib.hid hfl
      clear hb hfl HX
      simp only [Wv.val, Wv.cells]
      obtain ⟨⟨wb_c0, wb_c1, wb_c2, wb_c3, wb_c4, wb_c5, wb_c6, wb_c7, wb_c8, wb_c9⟩, wb_f0, wb_f1, wb_f2, wb_f3, wb_f4, wb_f5, wb_f6, wb_f7, wb_f8, wb_f9⟩ := boxes10 Hwb.out
      obtain ⟨⟨x5_c0, x5_c1, x5_c2, x5_c3, x5_c4, x5_c5, x5_c6, x5_c7, x5_c8, x5_c9⟩, x5_f0, x5_f1, x5_f2, x5_f3, x5_f4, x5_f5, x5_f6, x5_f7, x5_f8, x5_f9⟩ := boxes10 Hx5.out
      go_upto_region 8 with fail
      clear wb_c0 wb_c1 wb_c2 wb_c3 wb_c4 wb_c5 wb_c6 wb_c7 wb_c8 wb_c9 wb_f0 wb_f1 wb_f2 wb_f3 wb_f4 wb_f5 wb_f6 wb_f7 wb_f8 wb_f9 x5_c0 x5_c1 x5_c2 x5_c3 x5_c4 x5_c5 x5_c6 x5_c7 x5_c8 x5_c9 x5_f0 x5_f1 x5_f2 x5_f3 x5_f4 x5_f5 x5_f6 x5_f7 x5_f8 x5_f9
      obtain ⟨W3, hW3⟩ : ∃ X, X = set10 w7 bx5 (.slice p1.za A1.plan.zones.length p1.zc) (.slice p1.fa A1.plan.fates.length p1.fc) (.int .i64 A1.plan.ticks) (.slice p1.da A1.plan.drops.length p1.dc) (.int .i64 A1.clock) (.slice a11 A1.socks.length c11) (.slice a12 A1.dials.length c12) (.slice a13 A1.looks.length c13) (.int .i64 A1.dropped) (.slice a14 A1.marks.length c14) := ⟨_, rfl⟩
      have hqx5 := set10_at Hx5.out (.slice p1.za A1.plan.zones.length p1.zc) (.slice p1.fa A1.plan.fates.length p1.fc) (.int .i64 A1.plan.ticks) (.slice p1.da A1.plan.drops.length p1.dc) (.int .i64 A1.clock) (.slice a11 A1.socks.length c11) (.slice a12 A1.dials.length c12) (.slice a13 A1.looks.length c13) (.int .i64 A1.dropped) (.slice a14 A1.marks.length c14)
      have hb := set10_below HB.out hgex5 (.slice p1.za A1.plan.zones.length p1.zc) (.slice p1.fa A1.plan.fates.length p1.fc) (.int .i64 A1.plan.ticks) (.slice p1.da A1.plan.drops.length p1.dc) (.int .i64 A1.clock) (.slice a11 A1.socks.length c11) (.slice a12 A1.dials.length c12) (.slice a13 A1.looks.length c13) (.int .i64 A1.dropped) (.slice a14 A1.marks.length c14)
      have hqpb := (set10_other w7 bx5 w.heap.size (.slice p1.za A1.plan.zones.length p1.zc) (.slice p1.fa A1.plan.fates.length p1.fc) (.int .i64 A1.plan.ticks) (.slice p1.da A1.plan.drops.length p1.dc) (.int .i64 A1.clock) (.slice a11 A1.socks.length c11) (.slice a12 A1.dials.length c12) (.slice a13 A1.looks.length c13) (.int .i64 A1.dropped) (.slice a14 A1.marks.length c14) (by omega)).trans Hpb.out
      have hqwb := (set10_other w7 bx5 G1 (.slice p1.za A1.plan.zones.length p1.zc) (.slice p1.fa A1.plan.fates.length p1.fc) (.int .i64 A1.plan.ticks) (.slice p1.da A1.plan.drops.length p1.dc) (.int .i64 A1.clock) (.slice a11 A1.socks.length c11) (.slice a12 A1.dials.length c12) (.slice a13 A1.looks.length c13) (.int .i64 A1.dropped) (.slice a14 A1.marks.length c14) (by omega)).trans Hwb.out
      have hqx7 := (set10_other w7 bx5 bx7 (.slice p1.za A1.plan.zones.length p1.zc) (.slice p1.fa A1.plan.fates.length p1.fc) (.int .i64 A1.plan.ticks) (.slice p1.da A1.plan.drops.length p1.dc) (.int .i64 A1.clock) (.slice a11 A1.socks.length c11) (.slice a12 A1.dials.length c12) (.slice a13 A1.looks.length c13) (.int .i64 A1.dropped) (.slice a14 A1.marks.length c14) (by omega)).trans Hx7.out
      have hqf7 := set10_flat (b := bx5) Hf7.out (by simp) (.slice p1.za A1.plan.zones.length p1.zc) (.slice p1.fa A1.plan.fates.length p1.fc) (.int .i64 A1.plan.ticks) (.slice p1.da A1.plan.drops.length p1.dc) (.int .i64 A1.clock) (.slice a11 A1.socks.length c11) (.slice a12 A1.dials.length c12) (.slice a13 A1.looks.length c13) (.int .i64 A1.dropped) (.slice a14 A1.marks.length c14)
      have hqf5 := set10_flat (b := bx5) Hf5.out (by simp) (.slice p1.za A1.plan.zones.length p1.zc) (.slice p1.fa A1.plan.fates.length p1.fc) (.int .i64 A1.plan.ticks) (.slice p1.da A1.plan.drops.length p1.dc) (.int .i64 A1.clock) (.slice a11 A1.socks.length c11) (.slice a12 A1.dials.length c12) (.slice a13 A1.looks.length c13) (.int .i64 A1.dropped) (.slice a14 A1.marks.length c14)
      rw [← hW3] at hqx5 hb hqpb hqwb hqx7 hqf7 hqf5
      unfold set10 at hW3
      rw [← hW3]
      clear hW3
      replace HB := Lib.hid hb
      replace Hpb := Lib.hid hqpb
      replace Hwb := Lib.hid hqwb
      replace Hx5 := Lib.hid hqx5
      replace Hx7 := Lib.hid hqx7
      replace Hf7 := Lib.hid hqf7
      replace Hf5 := Lib.hid hqf5
      clear hqx5 hb hqpb hqwb hqx7 hqf7 hqf5
      obtain ⟨⟨wb_c0, wb_c1, wb_c2, wb_c3, wb_c4, wb_c5, wb_c6, wb_c7, wb_c8, wb_c9⟩, wb_f0, wb_f1, wb_f2, wb_f3, wb_f4, wb_f5, wb_f6, wb_f7, wb_f8, wb_f9⟩ := boxes10 Hwb.out
      obtain ⟨⟨x7_c0, x7_c1, x7_c2, x7_c3, x7_c4, x7_c5, x7_c6, x7_c7, x7_c8, x7_c9⟩, x7_f0, x7_f1, x7_f2, x7_f3, x7_f4, x7_f5, x7_f6, x7_f7, x7_f8, x7_f9⟩ := boxes10 Hx7.out
      have HX := Lib.hid (HT2.out (fun b => b ∈ ([bx5, bx7] : List Nat)) W3 HRm.out ((HAF.out.more (M := (fun b => b ∈ ([bx5, bx7] : List Nat))) (by intro b hb; simp only [List.mem_cons, List.not_mem_nil, or_false] at hb ⊢ <;> (first | omega | (right; omega)))).below HB.out))
      go_wp2_with fail
      with_reducible refine HX.out.mono ?_
      rintro e w8 ⟨⟨p2, a21, c21, a22, c22, a23, c23, a24, c24⟩, rfl, hfl, hb⟩
      clear wb_c0 wb_c1 wb_c2 wb_c3 wb_c4 wb_c5 wb_c6 wb_c7 wb_c8 wb_c9 wb_f0 wb_f1 wb_f2 wb_f3 wb_f4 wb_f5 wb_f6 wb_f7 wb_f8 wb_f9 x7_c0 x7_c1 x7_c2 x7_c3 x7_c4 x7_c5 x7_c6 x7_c7 x7_c8 x7_c9 x7_f0 x7_f1 x7_f2 x7_f3 x7_f4 x7_f5 x7_f6 x7_f7 x7_f8 x7_f9
      replace Hpb := Lib.hid ((hb.block _ (lt_of_block Hpb.out)).trans Hpb.out)
      replace Hwb := Lib.hid ((hb.block _ (lt_of_block Hwb.out)).trans Hwb.out)
      replace Hx5 := Lib.hid ((hb.block _ (lt_of_block Hx5.out)).trans Hx5.out)
      replace Hx7 := Lib.hid ((hb.block _ (lt_of_block Hx7.out)).trans Hx7.out)
      replace Hf5 := Lib.hid (Hf5.out.below hb)
      replace HB := Lib.hid (HB.out.trans (hb.mono HB.out.size))
      have Hf7 := Lib.hid hfl
      clear hb hfl HX
      simp only [Wv.val, Wv.cells]
      obtain ⟨⟨wb_c0, wb_c1, wb_c2, wb_c3, wb_c4, wb_c5, wb_c6, wb_c7, wb_c8, wb_c9⟩, wb_f0, wb_f1, wb_f2, wb_f3, wb_f4, wb_f5, wb_f6, wb_f7, wb_f8, wb_f9⟩ := boxes10 Hwb.out
      obtain ⟨⟨x7_c0, x7_c1, x7_c2, x7_c3, x7_c4, x7_c5, x7_c6, x7_c7, x7_c8, x7_c9⟩, x7_f0, x7_f1, x7_f2, x7_f3, x7_f4, x7_f5, x7_f6, x7_f7, x7_f8, x7_f9⟩ := boxes10 Hx7.out
      go_upto_region 9 with fail
      clear wb_c0 wb_c1 wb_c2 wb_c3 wb_c4 wb_c5 wb_c6 wb_c7 wb_c8 wb_c9 wb_f0 wb_f1 wb_f2 wb_f3 wb_f4 wb_f5 wb_f6 wb_f7 wb_f8 wb_f9 x7_c0 x7_c1 x7_c2 x7_c3 x7_c4 x7_c5 x7_c6 x7_c7 x7_c8 x7_c9 x7_f0 x7_f1 x7_f2 x7_f3 x7_f4 x7_f5 x7_f6 x7_f7 x7_f8 x7_f9
      obtain ⟨W4, hW4⟩ : ∃ X, X = set10 w8 bx7 (.slice p2.za A1.plan.zones.length p2.zc) (.slice p2.fa A1.plan.fates.length p2.fc) (.int .i64 A1.plan.ticks) (.slice p2.da A1.plan.drops.length p2.dc) (.int .i64 A1.clock) (.slice a21 A1.socks.length c21) (.slice a22 A1.dials.length c22) (.slice a23 A1.looks.length c23) (.int .i64 A1.dropped) (.slice a24 A1.marks.length c24) := ⟨_, rfl⟩
      have hqx7 := set10_at Hx7.out (.slice p2.za A1.plan.zones.length p2.zc) (.slice p2.fa A1.plan.fates.length p2.fc) (.int .i64 A1.plan.ticks) (.slice p2.da A1.plan.drops.length p2.dc) (.int .i64 A1.clock) (.slice a21 A1.socks.length c21) (.slice a22 A1.dials.length c22) (.slice a23 A1.looks.length c23) (.int .i64 A1.dropped) (.slice a24 A1.marks.length c24)
      have hb := set10_below HB.out hgex7 (.slice p2.za A1.plan.zones.length p2.zc) (.slice p2.fa A1.plan.fates.length p2.fc) (.int .i64 A1.plan.ticks) (.slice p2.da A1.plan.drops.length p2.dc) (.int .i64 A1.clock) (.slice a21 A1.socks.length c21) (.slice a22 A1.dials.length c22) (.slice a23 A1.looks.length c23) (.int .i64 A1.dropped) (.slice a24 A1.marks.length c24)
      have hqpb := (set10_other w8 bx7 w.heap.size (.slice p2.za A1.plan.zones.length p2.zc) (.slice p2.fa A1.plan.fates.length p2.fc) (.int .i64 A1.plan.ticks) (.slice p2.da A1.plan.drops.length p2.dc) (.int .i64 A1.clock) (.slice a21 A1.socks.length c21) (.slice a22 A1.dials.length c22) (.slice a23 A1.looks.length c23) (.int .i64 A1.dropped) (.slice a24 A1.marks.length c24) (by omega)).trans Hpb.out
      have hqwb := (set10_other w8 bx7 G1 (.slice p2.za A1.plan.zones.length p2.zc) (.slice p2.fa A1.plan.fates.length p2.fc) (.int .i64 A1.plan.ticks) (.slice p2.da A1.plan.drops.length p2.dc) (.int .i64 A1.clock) (.slice a21 A1.socks.length c21) (.slice a22 A1.dials.length c22) (.slice a23 A1.looks.length c23) (.int .i64 A1.dropped) (.slice a24 A1.marks.length c24) (by omega)).trans Hwb.out
      have hqx5 := (set10_other w8 bx7 bx5 (.slice p2.za A1.plan.zones.length p2.zc) (.slice p2.fa A1.plan.fates.length p2.fc) (.int .i64 A1.plan.ticks) (.slice p2.da A1.plan.drops.length p2.dc) (.int .i64 A1.clock) (.slice a21 A1.socks.length c21) (.slice a22 A1.dials.length c22) (.slice a23 A1.looks.length c23) (.int .i64 A1.dropped) (.slice a24 A1.marks.length c24) (by omega)).trans Hx5.out
      have hqf5 := set10_flat (b := bx7) Hf5.out (by simp) (.slice p2.za A1.plan.zones.length p2.zc) (.slice p2.fa A1.plan.fates.length p2.fc) (.int .i64 A1.plan.ticks) (.slice p2.da A1.plan.drops.length p2.dc) (.int .i64 A1.clock) (.slice a21 A1.socks.length c21) (.slice a22 A1.dials.length c22) (.slice a23 A1.looks.length c23) (.int .i64 A1.dropped) (.slice a24 A1.marks.length c24)
      have hqf7 := set10_flat (b := bx7) Hf7.out (by simp) (.slice p2.za A1.plan.zones.length p2.zc) (.slice p2.fa A1.plan.fates.length p2.fc) (.int .i64 A1.plan.ticks) (.slice p2.da A1.plan.drops.length p2.dc) (.int .i64 A1.clock) (.slice a21 A1.socks.length c21) (.slice a22 A1.dials.length c22) (.slice a23 A1.looks.length c23) (.int .i64 A1.dropped) (.slice a24 A1.marks.length c24)
      rw [← hW4] at hqx7 hb hqpb hqwb hqx5 hqf5 hqf7
      unfold set10 at hW4
      rw [← hW4]
      clear hW4
      replace HB := Lib.hid hb
      replace Hpb := Lib.hid hqpb
      replace Hwb := Lib.hid hqwb
      replace Hx5 := Lib.hid hqx5
      replace Hx7 := Lib.hid hqx7
      replace Hf5 := Lib.hid hqf5
      replace Hf7 := Lib.hid hqf7
      clear hqx7 hb hqpb hqwb hqx5 hqf5 hqf7
      obtain ⟨⟨x5_c0, x5_c1, x5_c2, x5_c3, x5_c4, x5_c5, x5_c6, x5_c7, x5_c8, x5_c9⟩, x5_f0, x5_f1, x5_f2, x5_f3, x5_f4, x5_f5, x5_f6, x5_f7, x5_f8, x5_f9⟩ := boxes10 Hx5.out
      obtain ⟨⟨x7_c0, x7_c1, x7_c2, x7_c3, x7_c4, x7_c5, x7_c6, x7_c7, x7_c8, x7_c9⟩, x7_f0, x7_f1, x7_f2, x7_f3, x7_f4, x7_f5, x7_f6, x7_f7, x7_f8, x7_f9⟩ := boxes10 Hx7.out
      have HX := Lib.hid (world_same A1 ⟨p1, a11, c11, a12, c12, a13, c13, a14, c14⟩ ⟨p2, a21, c21, a22, c22, a23, c23, a24, c24⟩ W4 HF1.out Hf5.out.world Hf7.out.world)
      simp only [Wv.val, Wv.cells] at HX
      go_wp2_with fail
      with_reducible refine HX.out.mono ?_
      rintro e w9 ⟨rfl, hb⟩
      clear x5_c0 x5_c1 x5_c2 x5_c3 x5_c4 x5_c5 x5_c6 x5_c7 x5_c8 x5_c9 x5_f0 x5_f1 x5_f2 x5_f3 x5_f4 x5_f5 x5_f6 x5_f7 x5_f8 x5_f9 x7_c0 x7_c1 x7_c2 x7_c3 x7_c4 x7_c5 x7_c6 x7_c7 x7_c8 x7_c9 x7_f0 x7_f1 x7_f2 x7_f3 x7_f4 x7_f5 x7_f6 x7_f7 x7_f8 x7_f9
      replace Hpb := Lib.hid ((hb.block _ (lt_of_block Hpb.out)).trans Hpb.out)
      replace Hwb := Lib.hid ((hb.block _ (lt_of_block Hwb.out)).trans Hwb.out)
      replace Hx5 := Lib.hid ((hb.block _ (lt_of_block Hx5.out)).trans Hx5.out)
      replace Hx7 := Lib.hid ((hb.block _ (lt_of_block Hx7.out)).trans Hx7.out)
      replace Hf5 := Lib.hid (Hf5.out.below hb)
      replace Hf7 := Lib.hid (Hf7.out.below hb)
      replace HB := Lib.hid (HB.out.trans (hb.mono HB.out.size))
      clear hb HX
      clear HT1 HT2 HF1
      obtain ⟨⟨wb_c0, wb_c1, wb_c2, wb_c3, wb_c4, wb_c5, wb_c6, wb_c7, wb_c8, wb_c9⟩, wb_f0, wb_f1, wb_f2, wb_f3, wb_f4, wb_f5, wb_f6, wb_f7, wb_f8, wb_f9⟩ := boxes10 Hwb.out
      obtain ⟨⟨x5_c0, x5_c1, x5_c2, x5_c3, x5_c4, x5_c5, x5_c6, x5_c7, x5_c8, x5_c9⟩, x5_f0, x5_f1, x5_f2, x5_f3, x5_f4, x5_f5, x5_f6, x5_f7, x5_f8, x5_f9⟩ := boxes10 Hx5.out
      have HX := Lib.hid (HR1.out (fun b => b ∈ ([bx5, bx7] : List Nat)) w9 (by have := lt_of_block Hx5.out; have := lt_of_block Hx7.out; intro b hb; simp only [List.mem_cons, List.not_mem_nil, or_false] at hb <;> omega) HRm.out ((HAF.out.more (M := (fun b => b ∈ ([bx5, bx7] : List Nat))) (by intro b hb; simp only [List.mem_cons, List.not_mem_nil, or_false] at hb ⊢ <;> (first | omega | (right; omega)))).below HB.out))
      go_wp2_with fail
      with_reducible refine HX.out.mono ?_
      rintro e wa ⟨⟨p3, a31, c31, a32, c32, a33, c33, a34, c34⟩, rfl, hfl, hb⟩
      clear wb_c0 wb_c1 wb_c2 wb_c3 wb_c4 wb_c5 wb_c6 wb_c7 wb_c8 wb_c9 wb_f0 wb_f1 wb_f2 wb_f3 wb_f4 wb_f5 wb_f6 wb_f7 wb_f8 wb_f9 x5_c0 x5_c1 x5_c2 x5_c3 x5_c4 x5_c5 x5_c6 x5_c7 x5_c8 x5_c9 x5_f0 x5_f1 x5_f2 x5_f3 x5_f4 x5_f5 x5_f6 x5_f7 x5_f8 x5_f9
      replace Hpb := Lib.hid ((hb.block _ (lt_of_block Hpb.out)).trans Hpb.out)
      replace Hwb := Lib.hid ((hb.block _ (lt_of_block Hwb.out)).trans Hwb.out)
      replace Hx5 := Lib.hid ((hb.block _ (lt_of_block Hx5.out)).trans Hx5.out)
      replace Hx7 := Lib.hid ((hb.block _ (lt_of_block Hx7.out)).trans Hx7.out)
      replace Hf7 := Lib.hid (Hf7.out.below hb)
      replace HB := Lib.hid (HB.out.trans (hb.mono HB.out.size))
      have Hf5 := Lib.hid hfl
      clear hb hfl HX
      simp only [Wv.val, Wv.cells]
      obtain ⟨⟨wb_c0, wb_c1, wb_c2, wb_c3, wb_c4, wb_c5, wb_c6, wb_c7, wb_c8, wb_c9⟩, wb_f0, wb_f1, wb_f2, wb_f3, wb_f4, wb_f5, wb_f6, wb_f7, wb_f8, wb_f9⟩ := boxes10 Hwb.out
      obtain ⟨⟨x5_c0, x5_c1, x5_c2, x5_c3, x5_c4, x5_c5, x5_c6, x5_c7, x5_c8, x5_c9⟩, x5_f0, x5_f1, x5_f2, x5_f3, x5_f4, x5_f5, x5_f6, x5_f7, x5_f8, x5_f9⟩ := boxes10 Hx5.out
      go_upto_region 12 with fail
      clear wb_c0 wb_c1 wb_c2 wb_c3 wb_c4 wb_c5 wb_c6 wb_c7 wb_c8 wb_c9 wb_f0 wb_f1 wb_f2 wb_f3 wb_f4 wb_f5 wb_f6 wb_f7 wb_f8 wb_f9 x5_c0 x5_c1 x5_c2 x5_c3 x5_c4 x5_c5 x5_c6 x5_c7 x5_c8 x5_c9 x5_f0 x5_f1 x5_f2 x5_f3 x5_f4 x5_f5 x5_f6 x5_f7 x5_f8 x5_f9
      obtain ⟨W5, hW5⟩ : ∃ X, X = set10 wa bx5 (.slice p3.za A2.plan.zones.length p3.zc) (.slice p3.fa A2.plan.fates.length p3.fc) (.int .i64 A2.plan.ticks) (.slice p3.da A2.plan.drops.length p3.dc) (.int .i64 A2.clock) (.slice a31 A2.socks.length c31) (.slice a32 A2.dials.length c32) (.slice a33 A2.looks.length c33) (.int .i64 A2.dropped) (.slice a34 A2.marks.length c34) := ⟨_, rfl⟩
      have hqx5 := set10_at Hx5.out (.slice p3.za A2.plan.zones.length p3.zc) (.slice p3.fa A2.plan.fates.length p3.fc) (.int .i64 A2.plan.ticks) (.slice p3.da A2.plan.drops.length p3.dc) (.int .i64 A2.clock) (.slice a31 A2.socks.length c31) (.slice a32 A2.dials.length c32) (.slice a33 A2.looks.length c33) (.int .i64 A2.dropped) (.slice a34 A2.marks.length c34)
      have hb := set10_below HB.out hgex5 (.slice p3.za A2.plan.zones.length p3.zc) (.slice p3.fa A2.plan.fates.length p3.fc) (.int .i64 A2.plan.ticks) (.slice p3.da A2.plan.drops.length p3.dc) (.int .i64 A2.clock) (.slice a31 A2.socks.length c31) (.slice a32 A2.dials.length c32) (.slice a33 A2.looks.length c33) (.int .i64 A2.dropped) (.slice a34 A2.marks.length c34)
      have hqpb := (set10_other wa bx5 w.heap.size (.slice p3.za A2.plan.zones.length p3.zc) (.slice p3.fa A2.plan.fates.length p3.fc) (.int .i64 A2.plan.ticks) (.slice p3.da A2.plan.drops.length p3.dc) (.int .i64 A2.clock) (.slice a31 A2.socks.length c31) (.slice a32 A2.dials.length c32) (.slice a33 A2.looks.length c33) (.int .i64 A2.dropped) (.slice a34 A2.marks.length c34) (by omega)).trans Hpb.out
      have hqwb := (set10_other wa bx5 G1 (.slice p3.za A2.plan.zones.length p3.zc) (.slice p3.fa A2.plan.fates.length p3.fc) (.int .i64 A2.plan.ticks) (.slice p3.da A2.plan.drops.length p3.dc) (.int .i64 A2.clock) (.slice a31 A2.socks.length c31) (.slice a32 A2.dials.length c32) (.slice a33 A2.looks.length c33) (.int .i64 A2.dropped) (.slice a34 A2.marks.length c34) (by omega)).trans Hwb.out
      have hqx7 := (set10_other wa bx5 bx7 (.slice p3.za A2.plan.zones.length p3.zc) (.slice p3.fa A2.plan.fates.length p3.fc) (.int .i64 A2.plan.ticks) (.slice p3.da A2.plan.drops.length p3.dc) (.int .i64 A2.clock) (.slice a31 A2.socks.length c31) (.slice a32 A2.dials.length c32) (.slice a33 A2.looks.length c33) (.int .i64 A2.dropped) (.slice a34 A2.marks.length c34) (by omega)).trans Hx7.out
      have hqf7 := set10_flat (b := bx5) Hf7.out (by simp) (.slice p3.za A2.plan.zones.length p3.zc) (.slice p3.fa A2.plan.fates.length p3.fc) (.int .i64 A2.plan.ticks) (.slice p3.da A2.plan.drops.length p3.dc) (.int .i64 A2.clock) (.slice a31 A2.socks.length c31) (.slice a32 A2.dials.length c32) (.slice a33 A2.looks.length c33) (.int .i64 A2.dropped) (.slice a34 A2.marks.length c34)
      have hqf5 := set10_flat (b := bx5) Hf5.out (by simp) (.slice p3.za A2.plan.zones.length p3.zc) (.slice p3.fa A2.plan.fates.length p3.fc) (.int .i64 A2.plan.ticks) (.slice p3.da A2.plan.drops.length p3.dc) (.int .i64 A2.clock) (.slice a31 A2.socks.length c31) (.slice a32 A2.dials.length c32) (.slice a33 A2.looks.length c33) (.int .i64 A2.dropped) (.slice a34 A2.marks.length c34)
      rw [← hW5] at hqx5 hb hqpb hqwb hqx7 hqf7 hqf5
      unfold set10 at hW5
      rw [← hW5]
      clear hW5
      replace HB := Lib.hid hb
      replace Hpb := Lib.hid hqpb
      replace Hwb := Lib.hid hqwb
      replace Hx5 := Lib.hid hqx5
      replace Hx7 := Lib.hid hqx7
      replace Hf7 := Lib.hid hqf7
      replace Hf5 := Lib.hid hqf5
      clear hqx5 hb hqpb hqwb hqx7 hqf7 hqf5
      obtain ⟨⟨wb_c0, wb_c1, wb_c2, wb_c3, wb_c4, wb_c5, wb_c6, wb_c7, wb_c8, wb_c9⟩, wb_f0, wb_f1, wb_f2, wb_f3, wb_f4, wb_f5, wb_f6, wb_f7, wb_f8, wb_f9⟩ := boxes10 Hwb.out
      obtain ⟨⟨x7_c0, x7_c1, x7_c2, x7_c3, x7_c4, x7_c5, x7_c6, x7_c7, x7_c8, x7_c9⟩, x7_f0, x7_f1, x7_f2, x7_f3, x7_f4, x7_f5, x7_f6, x7_f7, x7_f8, x7_f9⟩ := boxes10 Hx7.out
      have HX := Lib.hid (HR2.out (fun b => b ∈ ([bx5, bx7] : List Nat)) W5 (by have := lt_of_block Hx5.out; have := lt_of_block Hx7.out; intro b hb; simp only [List.mem_cons, List.not_mem_nil, or_false] at hb <;> omega) HRm.out ((HAF.out.more (M := (fun b => b ∈ ([bx5, bx7] : List Nat))) (by intro b hb; simp only [List.mem_cons, List.not_mem_nil, or_false] at hb ⊢ <;> (first | omega | (right; omega)))).below HB.out))
      go_wp2_with fail
      with_reducible refine HX.out.mono ?_
      rintro e wb_ ⟨⟨p4, a41, c41, a42, c42, a43, c43, a44, c44⟩, rfl, hfl, hb⟩
      clear wb_c0 wb_c1 wb_c2 wb_c3 wb_c4 wb_c5 wb_c6 wb_c7 wb_c8 wb_c9 wb_f0 wb_f1 wb_f2 wb_f3 wb_f4 wb_f5 wb_f6 wb_f7 wb_f8 wb_f9 x7_c0 x7_c1 x7_c2 x7_c3 x7_c4 x7_c5 x7_c6 x7_c7 x7_c8 x7_c9 x7_f0 x7_f1 x7_f2 x7_f3 x7_f4 x7_f5 x7_f6 x7_f7 x7_f8 x7_f9
      replace Hpb := Lib.hid ((hb.block _ (lt_of_block Hpb.out)).trans Hpb.out)
      replace Hwb := Lib.hid ((hb.block _ (lt_of_block Hwb.out)).trans Hwb.out)
      replace Hx5 := Lib.hid ((hb.block _ (lt_of_block Hx5.out)).trans Hx5.out)
      replace Hx7 := Lib.hid ((hb.block _ (lt_of_block Hx7.out)).trans Hx7.out)
      replace Hf5 := Lib.hid (Hf5.out.below hb)
      replace HB := Lib.hid (HB.out.trans (hb.mono HB.out.size))
      have Hf7 := Lib.hid hfl
      clear hb hfl HX
      simp only [Wv.val, Wv.cells]
      obtain ⟨⟨wb_c0, wb_c1, wb_c2, wb_c3, wb_c4, wb_c5, wb_c6, wb_c7, wb_c8, wb_c9⟩, wb_f0, wb_f1, wb_f2, wb_f3, wb_f4, wb_f5, wb_f6, wb_f7, wb_f8, wb_f9⟩ := boxes10 Hwb.out
      obtain ⟨⟨x7_c0, x7_c1, x7_c2, x7_c3, x7_c4, x7_c5, x7_c6, x7_c7, x7_c8, x7_c9⟩, x7_f0, x7_f1, x7_f2, x7_f3, x7_f4, x7_f5, x7_f6, x7_f7, x7_f8, x7_f9⟩ := boxes10 Hx7.out
      go_upto_region 13 with fail
      clear wb_c0 wb_c1 wb_c2 wb_c3 wb_c4 wb_c5 wb_c6 wb_c7 wb_c8 wb_c9 wb_f0 wb_f1 wb_f2 wb_f3 wb_f4 wb_f5 wb_f6 wb_f7 wb_f8 wb_f9 x7_c0 x7_c1 x7_c2 x7_c3 x7_c4 x7_c5 x7_c6 x7_c7 x7_c8 x7_c9 x7_f0 x7_f1 x7_f2 x7_f3 x7_f4 x7_f5 x7_f6 x7_f7 x7_f8 x7_f9
      obtain ⟨W6, hW6⟩ : ∃ X, X = set10 wb_ bx7 (.slice p4.za A2.plan.zones.length p4.zc) (.slice p4.fa A2.plan.fates.length p4.fc) (.int .i64 A2.plan.ticks) (.slice p4.da A2.plan.drops.length p4.dc) (.int .i64 A2.clock) (.slice a41 A2.socks.length c41) (.slice a42 A2.dials.length c42) (.slice a43 A2.looks.length c43) (.int .i64 A2.dropped) (.slice a44 A2.marks.length c44) := ⟨_, rfl⟩
      have hqx7 := set10_at Hx7.out (.slice p4.za A2.plan.zones.length p4.zc) (.slice p4.fa A2.plan.fates.length p4.fc) (.int .i64 A2.plan.ticks) (.slice p4.da A2.plan.drops.length p4.dc) (.int .i64 A2.clock) (.slice a41 A2.socks.length c41) (.slice a42 A2.dials.length c42) (.slice a43 A2.looks.length c43) (.int .i64 A2.dropped) (.slice a44 A2.marks.length c44)
      have hb := set10_below HB.out hgex7 (.slice p4.za A2.plan.zones.length p4.zc) (.slice p4.fa A2.plan.fates.length p4.fc) (.int .i64 A2.plan.ticks) (.slice p4.da A2.plan.drops.length p4.dc) (.int .i64 A2.clock) (.slice a41 A2.socks.length c41) (.slice a42 A2.dials.length c42) (.slice a43 A2.looks.length c43) (.int .i64 A2.dropped) (.slice a44 A2.marks.length c44)
      have hqpb := (set10_other wb_ bx7 w.heap.size (.slice p4.za A2.plan.zones.length p4.zc) (.slice p4.fa A2.plan.fates.length p4.fc) (.int .i64 A2.plan.ticks) (.slice p4.da A2.plan.drops.length p4.dc) (.int .i64 A2.clock) (.slice a41 A2.socks.length c41) (.slice a42 A2.dials.length c42) (.slice a43 A2.looks.length c43) (.int .i64 A2.dropped) (.slice a44 A2.marks.length c44) (by omega)).trans Hpb.out
      have hqwb := (set10_other wb_ bx7 G1 (.slice p4.za A2.plan.zones.length p4.zc) (.slice p4.fa A2.plan.fates.length p4.fc) (.int .i64 A2.plan.ticks) (.slice p4.da A2.plan.drops.length p4.dc) (.int .i64 A2.clock) (.slice a41 A2.socks.length c41) (.slice a42 A2.dials.length c42) (.slice a43 A2.looks.length c43) (.int .i64 A2.dropped) (.slice a44 A2.marks.length c44) (by omega)).trans Hwb.out
      have hqx5 := (set10_other wb_ bx7 bx5 (.slice p4.za A2.plan.zones.length p4.zc) (.slice p4.fa A2.plan.fates.length p4.fc) (.int .i64 A2.plan.ticks) (.slice p4.da A2.plan.drops.length p4.dc) (.int .i64 A2.clock) (.slice a41 A2.socks.length c41) (.slice a42 A2.dials.length c42) (.slice a43 A2.looks.length c43) (.int .i64 A2.dropped) (.slice a44 A2.marks.length c44) (by omega)).trans Hx5.out
      have hqf5 := set10_flat (b := bx7) Hf5.out (by simp) (.slice p4.za A2.plan.zones.length p4.zc) (.slice p4.fa A2.plan.fates.length p4.fc) (.int .i64 A2.plan.ticks) (.slice p4.da A2.plan.drops.length p4.dc) (.int .i64 A2.clock) (.slice a41 A2.socks.length c41) (.slice a42 A2.dials.length c42) (.slice a43 A2.looks.length c43) (.int .i64 A2.dropped) (.slice a44 A2.marks.length c44)
      have hqf7 := set10_flat (b := bx7) Hf7.out (by simp) (.slice p4.za A2.plan.zones.length p4.zc) (.slice p4.fa A2.plan.fates.length p4.fc) (.int .i64 A2.plan.ticks) (.slice p4.da A2.plan.drops.length p4.dc) (.int .i64 A2.clock) (.slice a41 A2.socks.length c41) (.slice a42 A2.dials.length c42) (.slice a43 A2.looks.length c43) (.int .i64 A2.dropped) (.slice a44 A2.marks.length c44)
      rw [← hW6] at hqx7 hb hqpb hqwb hqx5 hqf5 hqf7
      unfold set10 at hW6
      rw [← hW6]
      clear hW6
      replace HB := Lib.hid hb
      replace Hpb := Lib.hid hqpb
      replace Hwb := Lib.hid hqwb
      replace Hx5 := Lib.hid hqx5
      replace Hx7 := Lib.hid hqx7
      replace Hf5 := Lib.hid hqf5
      replace Hf7 := Lib.hid hqf7
      clear hqx7 hb hqpb hqwb hqx5 hqf5 hqf7
      obtain ⟨⟨x5_c0, x5_c1, x5_c2, x5_c3, x5_c4, x5_c5, x5_c6, x5_c7, x5_c8, x5_c9⟩, x5_f0, x5_f1, x5_f2, x5_f3, x5_f4, x5_f5, x5_f6, x5_f7, x5_f8, x5_f9⟩ := boxes10 Hx5.out
      obtain ⟨⟨x7_c0, x7_c1, x7_c2, x7_c3, x7_c4, x7_c5, x7_c6, x7_c7, x7_c8, x7_c9⟩, x7_f0, x7_f1, x7_f2, x7_f3, x7_f4, x7_f5, x7_f6, x7_f7, x7_f8, x7_f9⟩ := boxes10 Hx7.out
      have HX := Lib.hid (world_same A2 ⟨p3, a31, c31, a32, c32, a33, c33, a34, c34⟩ ⟨p4, a41, c41, a42, c42, a43, c43, a44, c44⟩ W6 HF2.out Hf5.out.world Hf7.out.world)
      simp only [Wv.val, Wv.cells] at HX
      go_wp2_with fail
      with_reducible refine HX.out.mono ?_
      rintro e wc ⟨rfl, hb⟩
      clear x5_c0 x5_c1 x5_c2 x5_c3 x5_c4 x5_c5 x5_c6 x5_c7 x5_c8 x5_c9 x5_f0 x5_f1 x5_f2 x5_f3 x5_f4 x5_f5 x5_f6 x5_f7 x5_f8 x5_f9 x7_c0 x7_c1 x7_c2 x7_c3 x7_c4 x7_c5 x7_c6 x7_c7 x7_c8 x7_c9 x7_f0 x7_f1 x7_f2 x7_f3 x7_f4 x7_f5 x7_f6 x7_f7 x7_f8 x7_f9
      replace Hpb := Lib.hid ((hb.block _ (lt_of_block Hpb.out)).trans Hpb.out)
      replace Hwb := Lib.hid ((hb.block _ (lt_of_block Hwb.out)).trans Hwb.out)
      replace Hx5 := Lib.hid ((hb.block _ (lt_of_block Hx5.out)).trans Hx5.out)
      replace Hx7 := Lib.hid ((hb.block _ (lt_of_block Hx7.out)).trans Hx7.out)
      replace Hf5 := Lib.hid (Hf5.out.below hb)
      replace Hf7 := Lib.hid (Hf7.out.below hb)
      replace HB := Lib.hid (HB.out.trans (hb.mono HB.out.size))
      clear hb HX
      go_wp2_with fail
      with_reducible refine (HWk.out _).mono ?_
      rintro e wf ⟨rfl, hb⟩
      have HBf := Lib.hid (HB.out.trans (hb.mono HB.out.size))
      clear hb
      go_wp2_with fail
      go_ret
      exact ⟨rfl, HBf.out⟩
end Go.Proofs.YtciohjgcndgiaaaGreat
