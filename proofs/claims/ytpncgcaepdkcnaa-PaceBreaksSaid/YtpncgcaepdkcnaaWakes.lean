/- What the document says of a stagger of three. -/
import Derived.Test.YtpncgcaepdkcnaaLawB
set_option linter.unusedSimpArgs false
set_option linter.unusedVariables false
namespace Go.Proofs.Ytpncgcaepdkcnaa
open R3 Go.RowKit Go.Proofs.Ytpncgcaepdkcnaa.Kind

set_option maxHeartbeats 40000000 in
set_option maxRecDepth 1000000 in
theorem wakes_walk (HMa : MaySpec) (HWh : WhenSpec) (HPl : PlanSpec) (HKe : KeepsSpec) (HSt : StartsSpec) : WakesSpec := by
  intro w
  have HMa := Lib.hid (fun s n f since g now r w h => HMa s n f since g now r w h)
  have HWh := Lib.hid (fun s n since g t r w h h1 => HWh s n since g t r w h h1)
  have HPl := Lib.hid (fun n t g L w h => HPl n t g L w h)
  have HKe := Lib.hid (fun g l s c r w h h1 h2 => HKe g l s c r w h h1 h2)
  have HSt := Lib.hid (fun l s c L w h h1 h2 => HSt l s c L w h h1 h2)
  have HB := Lib.hid (Below.refl w.heap.size w)
  obtain ⟨a, ha⟩ : ∃ x : Pc, x = ⟨false, 0, 5⟩ := ⟨_, rfl⟩
  obtain ⟨b, hb⟩ : ∃ x : Pc, x = ⟨false, 1, 7⟩ := ⟨_, rfl⟩
  obtain ⟨f, hf⟩ : ∃ x : Pc, x = ⟨true, 0, 7⟩ := ⟨_, rfl⟩
  have hca : (#[.bool false, .int .i64 0, .int .i64 5] : Array Value) = #[.bool a.fail, .int .i64 a.n, .int .i64 a.at_] := by rw [ha]
  have hcb : (#[.bool false, .int .i64 1, .int .i64 7] : Array Value) = #[.bool b.fail, .int .i64 b.n, .int .i64 b.at_] := by rw [hb]
  have hcf : (#[.bool true, .int .i64 0, .int .i64 7] : Array Value) = #[.bool f.fail, .int .i64 f.n, .int .i64 f.at_] := by rw [hf]
  have k0 : [5, 8, 11] = planL 3 5 3 := by decide
  have k1 : false = keepsP 3 [a, b] := by subst ha hb; decide
  have k2 : true = keepsP 3 [a, f, b] := by subst ha hb hf; decide
  have k3 : true = mayP 1 2 false 5 3 8 := by decide
  have k4 : false = mayP 1 2 false 5 3 7 := by decide
  replace hca := Lib.hid hca
  replace hcb := Lib.hid hcb
  replace hcf := Lib.hid hcf
  replace k0 := Lib.hid k0
  replace k1 := Lib.hid k1
  replace k2 := Lib.hid k2
  replace k3 := Lib.hid k3
  replace k4 := Lib.hid k4
  clear ha hb hf
  go_enter Try.func14, Try.ntmps14
  have HX := Lib.hid (HPl.out 3 5 3 [5, 8, 11] w k0.out)
  simp only [List.length_cons, List.length_nil, Nat.zero_add, Nat.reduceAdd] at HX
  go_wp2_with fail
  with_reducible refine HX.out.mono ?_
  rintro e w1 ⟨a1, c1, rfl, hR, hb⟩
  clear HX
  replace HB := Lib.hid (HB.out.trans (hb.mono HB.out.size))
  clear hb
  have Hp := Lib.hid hR
  clear hR
  go_upto_region 3 with fail
  obtain ⟨q0, hq0⟩ : ∃ X, X = ((w1.alloc (.cells #[.bool false, .int .i64 0, .int .i64 5] 26)).alloc (.cells #[.bool false, .int .i64 1, .int .i64 7] 26)).alloc (.cells #[.bool true, .int .i64 0, .int .i64 7] 26) := ⟨_, rfl⟩
  have hb := below3 w1 (.cells #[.bool false, .int .i64 0, .int .i64 5] 26) (.cells #[.bool false, .int .i64 1, .int .i64 7] 26) (.cells #[.bool true, .int .i64 0, .int .i64 7] 26)
  have hL := laid3 w1 (.cells #[.bool false, .int .i64 0, .int .i64 5] 26) (.cells #[.bool false, .int .i64 1, .int .i64 7] 26) (.cells #[.bool true, .int .i64 0, .int .i64 7] 26)
  rw [← hq0] at hb hL ⊢
  clear hq0
  obtain ⟨g1, hg1⟩ : ∃ n, n = w1.heap.size := ⟨_, rfl⟩
  obtain ⟨g2, hg2⟩ : ∃ n, n = w1.heap.size + 1 := ⟨_, rfl⟩
  obtain ⟨g3, hg3⟩ : ∃ n, n = w1.heap.size + 1 + 1 := ⟨_, rfl⟩
  rw [show w1.heap.size + 2 = w1.heap.size + 1 + 1 from rfl] at hL
  rw [← hg3, ← hg2, ← hg1] at hL ⊢
  obtain ⟨hM1, hM2, hM3⟩ := hL
  rw [hca.out] at hM1
  rw [hcb.out] at hM2
  rw [hcf.out] at hM3
  clear hg1 hg2 hg3
  replace Hp := Lib.hid (Hp.out.below hb)
  replace HB := Lib.hid (HB.out.trans (hb.mono HB.out.size))
  clear hb
  have Ha := Lib.hid hM1
  have Hb := Lib.hid hM2
  have Hf := Lib.hid hM3
  clear hM1 hM2 hM3
  obtain ⟨bp, op, rfl, hbp, hat⟩ := Hp.out.2.2.2 (by simp)
  have y0 := IK.one hat (j := 0) rfl
  have y1 := IK.one hat (j := 1) rfl
  have y2 := IK.one hat (j := 2) rfl
  simp only [Nat.add_zero] at y0
  clear hat
  have HX := Lib.hid (HKe.out 3 [a, b] (some ⟨q0.heap.size, 0, none⟩) 2 false (q0.alloc (.cells #[.bool a.fail, .int .i64 a.n, .int .i64 a.at_, .bool b.fail, .int .i64 b.n, .int .i64 b.at_] 26)) k1.out (by simp) (rowC_at (K := PK) q0 26 [a, b] #[.bool a.fail, .int .i64 a.n, .int .i64 a.at_, .bool b.fail, .int .i64 b.n, .int .i64 b.at_] q0.heap.size 2 rfl rfl rfl (by simp)))
  simp only [List.length_cons, List.length_nil, Nat.zero_add, Nat.reduceAdd] at HX
  obtain ⟨⟨c_a_0, c_a_1, c_a_2⟩, f_a_0, f_a_1, f_a_2⟩ := box_3 Ha.out
  obtain ⟨⟨c_b_0, c_b_1, c_b_2⟩, f_b_0, f_b_1, f_b_2⟩ := box_3 Hb.out
  obtain ⟨⟨c_f_0, c_f_1, c_f_2⟩, f_f_0, f_f_1, f_f_2⟩ := box_3 Hf.out
  go_wp2_with fail
  with_reducible refine HX.out.mono ?_
  rintro e w2 ⟨rfl, hb⟩
  clear c_a_0 c_a_1 c_a_2 f_a_0 f_a_1 f_a_2 c_b_0 c_b_1 c_b_2 f_b_0 f_b_1 f_b_2 c_f_0 c_f_1 c_f_2 f_f_0 f_f_1 f_f_2
  clear HX
  replace hb := (below1 q0 (.cells #[.bool a.fail, .int .i64 a.n, .int .i64 a.at_, .bool b.fail, .int .i64 b.n, .int .i64 b.at_] 26)).trans (hb.mono (by simp))
  replace Hp := Lib.hid (Hp.out.below hb)
  replace Ha := Lib.hid ((hb.block _ (lt_of_block Ha.out)).trans Ha.out)
  replace Hb := Lib.hid ((hb.block _ (lt_of_block Hb.out)).trans Hb.out)
  replace Hf := Lib.hid ((hb.block _ (lt_of_block Hf.out)).trans Hf.out)
  replace HB := Lib.hid (HB.out.trans (hb.mono HB.out.size))
  clear hb
  clear y0 y1 y2
  have HX := Lib.hid (HKe.out 3 [a, f, b] (some ⟨w2.heap.size, 0, none⟩) 3 true (w2.alloc (.cells #[.bool a.fail, .int .i64 a.n, .int .i64 a.at_, .bool f.fail, .int .i64 f.n, .int .i64 f.at_, .bool b.fail, .int .i64 b.n, .int .i64 b.at_] 26)) k2.out (by simp) (rowC_at (K := PK) w2 26 [a, f, b] #[.bool a.fail, .int .i64 a.n, .int .i64 a.at_, .bool f.fail, .int .i64 f.n, .int .i64 f.at_, .bool b.fail, .int .i64 b.n, .int .i64 b.at_] w2.heap.size 3 rfl rfl rfl (by simp)))
  simp only [List.length_cons, List.length_nil, Nat.zero_add, Nat.reduceAdd] at HX
  obtain ⟨⟨c_a_0, c_a_1, c_a_2⟩, f_a_0, f_a_1, f_a_2⟩ := box_3 Ha.out
  obtain ⟨⟨c_b_0, c_b_1, c_b_2⟩, f_b_0, f_b_1, f_b_2⟩ := box_3 Hb.out
  obtain ⟨⟨c_f_0, c_f_1, c_f_2⟩, f_f_0, f_f_1, f_f_2⟩ := box_3 Hf.out
  go_wp2_with fail
  with_reducible refine HX.out.mono ?_
  rintro e w3 ⟨rfl, hb⟩
  clear c_a_0 c_a_1 c_a_2 f_a_0 f_a_1 f_a_2 c_b_0 c_b_1 c_b_2 f_b_0 f_b_1 f_b_2 c_f_0 c_f_1 c_f_2 f_f_0 f_f_1 f_f_2
  clear HX
  replace hb := (below1 w2 (.cells #[.bool a.fail, .int .i64 a.n, .int .i64 a.at_, .bool f.fail, .int .i64 f.n, .int .i64 f.at_, .bool b.fail, .int .i64 b.n, .int .i64 b.at_] 26)).trans (hb.mono (by simp))
  replace Hp := Lib.hid (Hp.out.below hb)
  replace Ha := Lib.hid ((hb.block _ (lt_of_block Ha.out)).trans Ha.out)
  replace Hb := Lib.hid ((hb.block _ (lt_of_block Hb.out)).trans Hb.out)
  replace Hf := Lib.hid ((hb.block _ (lt_of_block Hf.out)).trans Hf.out)
  replace HB := Lib.hid (HB.out.trans (hb.mono HB.out.size))
  clear hb
  have HX := Lib.hid (HMa.out 1 2 false 5 3 8 true w3 k3.out)
  go_wp2_with fail
  with_reducible refine HX.out.mono ?_
  rintro e w4 ⟨rfl, hb⟩
  clear HX
  replace Hp := Lib.hid (Hp.out.below hb)
  replace Ha := Lib.hid ((hb.block _ (lt_of_block Ha.out)).trans Ha.out)
  replace Hb := Lib.hid ((hb.block _ (lt_of_block Hb.out)).trans Hb.out)
  replace Hf := Lib.hid ((hb.block _ (lt_of_block Hf.out)).trans Hf.out)
  replace HB := Lib.hid (HB.out.trans (hb.mono HB.out.size))
  clear hb
  have HX := Lib.hid (HMa.out 1 2 false 5 3 7 false w4 k4.out)
  go_wp2_with fail
  with_reducible refine HX.out.mono ?_
  rintro e w5 ⟨rfl, hb⟩
  clear HX
  replace Hp := Lib.hid (Hp.out.below hb)
  replace Ha := Lib.hid ((hb.block _ (lt_of_block Ha.out)).trans Ha.out)
  replace Hb := Lib.hid ((hb.block _ (lt_of_block Hb.out)).trans Hb.out)
  replace Hf := Lib.hid ((hb.block _ (lt_of_block Hf.out)).trans Hf.out)
  replace HB := Lib.hid (HB.out.trans (hb.mono HB.out.size))
  clear hb
  go_wp2_with fail
  go_ret
  exact ⟨rfl, HB.out⟩
end Go.Proofs.Ytpncgcaepdkcnaa
