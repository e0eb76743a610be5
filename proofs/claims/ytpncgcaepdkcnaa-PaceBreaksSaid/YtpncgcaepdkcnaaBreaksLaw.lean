/- PaceBreaks walked. -/
import Derived.Test.YtpncgcaepdkcnaaLawB
set_option linter.unusedSimpArgs false
set_option linter.unusedVariables false
namespace Go.Proofs.Ytpncgcaepdkcnaa
open R3 Go.RowKit Go.Proofs.Ytpncgcaepdkcnaa.Kind

set_option maxHeartbeats 40000000 in
set_option maxRecDepth 1000000 in
theorem pacebreaks_walk (HMa : MaySpec) (HWh : WhenSpec) (HPl : PlanSpec) (HKe : KeepsSpec) (HSt : StartsSpec) (HWk : WakesSpec) (t m g : Int) (w : World) :
    Calls Try.prog 5 #[.int .i64 t, .int .i64 m, .int .i64 g] w fun e w' => e = .returned (.bool true) ∧ Below w.heap.size w w' := by
  have HMa := Lib.hid (fun s n f since g now r w h => HMa s n f since g now r w h)
  have HWh := Lib.hid (fun s n since g t r w h h1 => HWh s n since g t r w h h1)
  have HPl := Lib.hid (fun n t g L w h => HPl n t g L w h)
  have HKe := Lib.hid (fun g l s c r w h h1 h2 => HKe g l s c r w h h1 h2)
  have HSt := Lib.hid (fun l s c L w h h1 h2 => HSt l s c L w h h1 h2)
  have HWk := Lib.hid (fun w => HWk w)
  have HB := Lib.hid (Below.refl w.heap.size w)
  go_enter Try.func5, Try.ntmps5
  by_cases ht1 : t < 0
  · have hd := decide_eq_true ht1
    go_wp2_with fail
    with_reducible refine (HWk.out _).mono ?_
    rintro e wf ⟨rfl, hb⟩
    have HBf := Lib.hid (HB.out.trans (hb.mono HB.out.size))
    clear hb
    go_wp2_with fail
    go_ret
    exact ⟨rfl, HBf.out⟩
  have ht1d := decide_eq_false ht1
  by_cases ht2 : 1048576 < t
  · have hd := decide_eq_true ht2
    go_wp2_with fail
    with_reducible refine (HWk.out _).mono ?_
    rintro e wf ⟨rfl, hb⟩
    have HBf := Lib.hid (HB.out.trans (hb.mono HB.out.size))
    clear hb
    go_wp2_with fail
    go_ret
    exact ⟨rfl, HBf.out⟩
  have ht2d := decide_eq_false ht2
  by_cases hm1 : m < 0
  · have hd := decide_eq_true hm1
    go_wp2_with fail
    with_reducible refine (HWk.out _).mono ?_
    rintro e wf ⟨rfl, hb⟩
    have HBf := Lib.hid (HB.out.trans (hb.mono HB.out.size))
    clear hb
    go_wp2_with fail
    go_ret
    exact ⟨rfl, HBf.out⟩
  have hm1d := decide_eq_false hm1
  by_cases hm2 : 1048576 < m
  · have hd := decide_eq_true hm2
    go_wp2_with fail
    with_reducible refine (HWk.out _).mono ?_
    rintro e wf ⟨rfl, hb⟩
    have HBf := Lib.hid (HB.out.trans (hb.mono HB.out.size))
    clear hb
    go_wp2_with fail
    go_ret
    exact ⟨rfl, HBf.out⟩
  have hm2d := decide_eq_false hm2
  by_cases hg1 : g < 0
  · have hd := decide_eq_true hg1
    go_wp2_with fail
    with_reducible refine (HWk.out _).mono ?_
    rintro e wf ⟨rfl, hb⟩
    have HBf := Lib.hid (HB.out.trans (hb.mono HB.out.size))
    clear hb
    go_wp2_with fail
    go_ret
    exact ⟨rfl, HBf.out⟩
  have hg1d := decide_eq_false hg1
  by_cases hg2 : 1048576 < g
  · have hd := decide_eq_true hg2
    go_wp2_with fail
    with_reducible refine (HWk.out _).mono ?_
    rintro e wf ⟨rfl, hb⟩
    have HBf := Lib.hid (HB.out.trans (hb.mono HB.out.size))
    clear hb
    go_wp2_with fail
    go_ret
    exact ⟨rfl, HBf.out⟩
  have hg2d := decide_eq_false hg2
  have hw : IntKind.i64.wrap (t + m) = t + m := by rw [IntKind.wrap_i64]; omega
  obtain ⟨a, ha⟩ : ∃ x : Pc, x = ⟨false, 0, t⟩ := ⟨_, rfl⟩
  obtain ⟨b, hb⟩ : ∃ x : Pc, x = ⟨false, 1, t + m⟩ := ⟨_, rfl⟩
  obtain ⟨f, hf⟩ : ∃ x : Pc, x = ⟨true, 0, t + m⟩ := ⟨_, rfl⟩
  have hca : (#[.bool false, .int .i64 0, .int .i64 t] : Array Value) = #[.bool a.fail, .int .i64 a.n, .int .i64 a.at_] := by rw [ha]
  have hcb : (#[.bool false, .int .i64 1, .int .i64 (t + m)] : Array Value) = #[.bool b.fail, .int .i64 b.n, .int .i64 b.at_] := by rw [hb]
  have hcf : (#[.bool true, .int .i64 0, .int .i64 (t + m)] : Array Value) = #[.bool f.fail, .int .i64 f.n, .int .i64 f.at_] := by rw [hf]
  have k1 : decide (g ≤ m) = keepsP g [a, b] := by rw [ha, hb, brk_two (by omega) (by omega) (by omega) (by omega) (by omega) (by omega)]
  have k2 : true = keepsP g [a, f, b] := by rw [ha, hb, hf, brk_three (by omega)]
  have k3 : false = keepsP g [b] := by rw [hb]; exact (brk_late _ _).symm
  have k4 : false = keepsP g [a, a] := by rw [ha]; exact (brk_twice _ _).symm
  have k5 : false = keepsP g [a, f, f] := by rw [ha, hf]; exact (brk_fails _ _ _).symm
  have k6 : false = keepsP g [f] := by rw [hf]; exact (brk_none _ _).symm
  have k7 : true = keepsP g [] := (brk_empty g).symm
  have k8 : false = keepsP 0 [f, a] := by rw [ha, hf]; exact (brk_back _ _ _).symm
  replace hca := Lib.hid hca
  replace hcb := Lib.hid hcb
  replace hcf := Lib.hid hcf
  replace k1 := Lib.hid k1
  replace k2 := Lib.hid k2
  replace k3 := Lib.hid k3
  replace k4 := Lib.hid k4
  replace k5 := Lib.hid k5
  replace k6 := Lib.hid k6
  replace k7 := Lib.hid k7
  replace k8 := Lib.hid k8
  clear ha hb hf
  go_upto_region 5 with fail
  obtain ⟨q0, hq0⟩ : ∃ X, X = ((w.alloc (.cells #[.bool false, .int .i64 0, .int .i64 t] 26)).alloc (.cells #[.bool false, .int .i64 1, .int .i64 (t + m)] 26)).alloc (.cells #[.bool true, .int .i64 0, .int .i64 (t + m)] 26) := ⟨_, rfl⟩
  have hb := below3 w (.cells #[.bool false, .int .i64 0, .int .i64 t] 26) (.cells #[.bool false, .int .i64 1, .int .i64 (t + m)] 26) (.cells #[.bool true, .int .i64 0, .int .i64 (t + m)] 26)
  have hL := laid3 w (.cells #[.bool false, .int .i64 0, .int .i64 t] 26) (.cells #[.bool false, .int .i64 1, .int .i64 (t + m)] 26) (.cells #[.bool true, .int .i64 0, .int .i64 (t + m)] 26)
  rw [← hq0] at hb hL ⊢
  clear hq0
  obtain ⟨g1, hg1⟩ : ∃ n, n = w.heap.size := ⟨_, rfl⟩
  obtain ⟨g2, hg2⟩ : ∃ n, n = w.heap.size + 1 := ⟨_, rfl⟩
  obtain ⟨g3, hg3⟩ : ∃ n, n = w.heap.size + 1 + 1 := ⟨_, rfl⟩
  rw [show w.heap.size + 2 = w.heap.size + 1 + 1 from rfl] at hL
  rw [← hg3, ← hg2, ← hg1] at hL ⊢
  obtain ⟨hM1, hM2, hM3⟩ := hL
  rw [hca.out] at hM1
  rw [hcb.out] at hM2
  rw [hcf.out] at hM3
  clear hg1 hg2 hg3
  replace HB := Lib.hid (HB.out.trans (hb.mono HB.out.size))
  clear hb
  have Ha := Lib.hid hM1
  have Hb := Lib.hid hM2
  have Hf := Lib.hid hM3
  clear hM1 hM2 hM3
  have hdd : (decide (g ≤ m) != decide (g ≤ m)) = false := by simp
  have HX := Lib.hid (HKe.out g [a, b] (some ⟨q0.heap.size, 0, none⟩) 2 (decide (g ≤ m)) (q0.alloc (.cells #[.bool a.fail, .int .i64 a.n, .int .i64 a.at_, .bool b.fail, .int .i64 b.n, .int .i64 b.at_] 26)) k1.out (by simp) (rowC_at (K := PK) q0 26 [a, b] #[.bool a.fail, .int .i64 a.n, .int .i64 a.at_, .bool b.fail, .int .i64 b.n, .int .i64 b.at_] q0.heap.size 2 rfl rfl rfl (by simp)))
  simp only [List.length_cons, List.length_nil, Nat.zero_add, Nat.reduceAdd] at HX
  obtain ⟨⟨c_a_0, c_a_1, c_a_2⟩, f_a_0, f_a_1, f_a_2⟩ := box_3 Ha.out
  obtain ⟨⟨c_b_0, c_b_1, c_b_2⟩, f_b_0, f_b_1, f_b_2⟩ := box_3 Hb.out
  obtain ⟨⟨c_f_0, c_f_1, c_f_2⟩, f_f_0, f_f_1, f_f_2⟩ := box_3 Hf.out
  go_wp2_with fail
  with_reducible refine HX.out.mono ?_
  rintro e w1 ⟨rfl, hb⟩
  clear c_a_0 c_a_1 c_a_2 f_a_0 f_a_1 f_a_2 c_b_0 c_b_1 c_b_2 f_b_0 f_b_1 f_b_2 c_f_0 c_f_1 c_f_2 f_f_0 f_f_1 f_f_2
  clear HX
  replace hb := (below1 q0 (.cells #[.bool a.fail, .int .i64 a.n, .int .i64 a.at_, .bool b.fail, .int .i64 b.n, .int .i64 b.at_] 26)).trans (hb.mono (by simp))
  replace Ha := Lib.hid ((hb.block _ (lt_of_block Ha.out)).trans Ha.out)
  replace Hb := Lib.hid ((hb.block _ (lt_of_block Hb.out)).trans Hb.out)
  replace Hf := Lib.hid ((hb.block _ (lt_of_block Hf.out)).trans Hf.out)
  replace HB := Lib.hid (HB.out.trans (hb.mono HB.out.size))
  clear hb
  have HX := Lib.hid (HKe.out g [a, f, b] (some ⟨w1.heap.size, 0, none⟩) 3 true (w1.alloc (.cells #[.bool a.fail, .int .i64 a.n, .int .i64 a.at_, .bool f.fail, .int .i64 f.n, .int .i64 f.at_, .bool b.fail, .int .i64 b.n, .int .i64 b.at_] 26)) k2.out (by simp) (rowC_at (K := PK) w1 26 [a, f, b] #[.bool a.fail, .int .i64 a.n, .int .i64 a.at_, .bool f.fail, .int .i64 f.n, .int .i64 f.at_, .bool b.fail, .int .i64 b.n, .int .i64 b.at_] w1.heap.size 3 rfl rfl rfl (by simp)))
  simp only [List.length_cons, List.length_nil, Nat.zero_add, Nat.reduceAdd] at HX
  obtain ⟨⟨c_a_0, c_a_1, c_a_2⟩, f_a_0, f_a_1, f_a_2⟩ := box_3 Ha.out
  obtain ⟨⟨c_b_0, c_b_1, c_b_2⟩, f_b_0, f_b_1, f_b_2⟩ := box_3 Hb.out
  obtain ⟨⟨c_f_0, c_f_1, c_f_2⟩, f_f_0, f_f_1, f_f_2⟩ := box_3 Hf.out
  go_wp2_with fail
  with_reducible refine HX.out.mono ?_
  rintro e w2 ⟨rfl, hb⟩
  clear c_a_0 c_a_1 c_a_2 f_a_0 f_a_1 f_a_2 c_b_0 c_b_1 c_b_2 f_b_0 f_b_1 f_b_2 c_f_0 c_f_1 c_f_2 f_f_0 f_f_1 f_f_2
  clear HX
  replace hb := (below1 w1 (.cells #[.bool a.fail, .int .i64 a.n, .int .i64 a.at_, .bool f.fail, .int .i64 f.n, .int .i64 f.at_, .bool b.fail, .int .i64 b.n, .int .i64 b.at_] 26)).trans (hb.mono (by simp))
  replace Ha := Lib.hid ((hb.block _ (lt_of_block Ha.out)).trans Ha.out)
  replace Hb := Lib.hid ((hb.block _ (lt_of_block Hb.out)).trans Hb.out)
  replace Hf := Lib.hid ((hb.block _ (lt_of_block Hf.out)).trans Hf.out)
  replace HB := Lib.hid (HB.out.trans (hb.mono HB.out.size))
  clear hb
  clear hdd
  have HX := Lib.hid (HKe.out g [b] (some ⟨w2.heap.size, 0, none⟩) 1 false (w2.alloc (.cells #[.bool b.fail, .int .i64 b.n, .int .i64 b.at_] 26)) k3.out (by simp) (rowC_at (K := PK) w2 26 [b] #[.bool b.fail, .int .i64 b.n, .int .i64 b.at_] w2.heap.size 1 rfl rfl rfl (by simp)))
  simp only [List.length_cons, List.length_nil, Nat.zero_add, Nat.reduceAdd] at HX
  obtain ⟨⟨c_a_0, c_a_1, c_a_2⟩, f_a_0, f_a_1, f_a_2⟩ := box_3 Ha.out
  obtain ⟨⟨c_b_0, c_b_1, c_b_2⟩, f_b_0, f_b_1, f_b_2⟩ := box_3 Hb.out
  obtain ⟨⟨c_f_0, c_f_1, c_f_2⟩, f_f_0, f_f_1, f_f_2⟩ := box_3 Hf.out
  go_wp2_with fail
  with_reducible refine HX.out.mono ?_
  rintro e w3 ⟨rfl, hb⟩
  clear c_a_0 c_a_1 c_a_2 f_a_0 f_a_1 f_a_2 c_b_0 c_b_1 c_b_2 f_b_0 f_b_1 f_b_2 c_f_0 c_f_1 c_f_2 f_f_0 f_f_1 f_f_2
  clear HX
  replace hb := (below1 w2 (.cells #[.bool b.fail, .int .i64 b.n, .int .i64 b.at_] 26)).trans (hb.mono (by simp))
  replace Ha := Lib.hid ((hb.block _ (lt_of_block Ha.out)).trans Ha.out)
  replace Hb := Lib.hid ((hb.block _ (lt_of_block Hb.out)).trans Hb.out)
  replace Hf := Lib.hid ((hb.block _ (lt_of_block Hf.out)).trans Hf.out)
  replace HB := Lib.hid (HB.out.trans (hb.mono HB.out.size))
  clear hb
  have HX := Lib.hid (HKe.out g [a, a] (some ⟨w3.heap.size, 0, none⟩) 2 false (w3.alloc (.cells #[.bool a.fail, .int .i64 a.n, .int .i64 a.at_, .bool a.fail, .int .i64 a.n, .int .i64 a.at_] 26)) k4.out (by simp) (rowC_at (K := PK) w3 26 [a, a] #[.bool a.fail, .int .i64 a.n, .int .i64 a.at_, .bool a.fail, .int .i64 a.n, .int .i64 a.at_] w3.heap.size 2 rfl rfl rfl (by simp)))
  simp only [List.length_cons, List.length_nil, Nat.zero_add, Nat.reduceAdd] at HX
  obtain ⟨⟨c_a_0, c_a_1, c_a_2⟩, f_a_0, f_a_1, f_a_2⟩ := box_3 Ha.out
  obtain ⟨⟨c_b_0, c_b_1, c_b_2⟩, f_b_0, f_b_1, f_b_2⟩ := box_3 Hb.out
  obtain ⟨⟨c_f_0, c_f_1, c_f_2⟩, f_f_0, f_f_1, f_f_2⟩ := box_3 Hf.out
  go_wp2_with fail
  with_reducible refine HX.out.mono ?_
  rintro e w4 ⟨rfl, hb⟩
  clear c_a_0 c_a_1 c_a_2 f_a_0 f_a_1 f_a_2 c_b_0 c_b_1 c_b_2 f_b_0 f_b_1 f_b_2 c_f_0 c_f_1 c_f_2 f_f_0 f_f_1 f_f_2
  clear HX
  replace hb := (below1 w3 (.cells #[.bool a.fail, .int .i64 a.n, .int .i64 a.at_, .bool a.fail, .int .i64 a.n, .int .i64 a.at_] 26)).trans (hb.mono (by simp))
  replace Ha := Lib.hid ((hb.block _ (lt_of_block Ha.out)).trans Ha.out)
  replace Hb := Lib.hid ((hb.block _ (lt_of_block Hb.out)).trans Hb.out)
  replace Hf := Lib.hid ((hb.block _ (lt_of_block Hf.out)).trans Hf.out)
  replace HB := Lib.hid (HB.out.trans (hb.mono HB.out.size))
  clear hb
  have HX := Lib.hid (HKe.out g [a, f, f] (some ⟨w4.heap.size, 0, none⟩) 3 false (w4.alloc (.cells #[.bool a.fail, .int .i64 a.n, .int .i64 a.at_, .bool f.fail, .int .i64 f.n, .int .i64 f.at_, .bool f.fail, .int .i64 f.n, .int .i64 f.at_] 26)) k5.out (by simp) (rowC_at (K := PK) w4 26 [a, f, f] #[.bool a.fail, .int .i64 a.n, .int .i64 a.at_, .bool f.fail, .int .i64 f.n, .int .i64 f.at_, .bool f.fail, .int .i64 f.n, .int .i64 f.at_] w4.heap.size 3 rfl rfl rfl (by simp)))
  simp only [List.length_cons, List.length_nil, Nat.zero_add, Nat.reduceAdd] at HX
  obtain ⟨⟨c_a_0, c_a_1, c_a_2⟩, f_a_0, f_a_1, f_a_2⟩ := box_3 Ha.out
  obtain ⟨⟨c_b_0, c_b_1, c_b_2⟩, f_b_0, f_b_1, f_b_2⟩ := box_3 Hb.out
  obtain ⟨⟨c_f_0, c_f_1, c_f_2⟩, f_f_0, f_f_1, f_f_2⟩ := box_3 Hf.out
  go_wp2_with fail
  with_reducible refine HX.out.mono ?_
  rintro e w5 ⟨rfl, hb⟩
  clear c_a_0 c_a_1 c_a_2 f_a_0 f_a_1 f_a_2 c_b_0 c_b_1 c_b_2 f_b_0 f_b_1 f_b_2 c_f_0 c_f_1 c_f_2 f_f_0 f_f_1 f_f_2
  clear HX
  replace hb := (below1 w4 (.cells #[.bool a.fail, .int .i64 a.n, .int .i64 a.at_, .bool f.fail, .int .i64 f.n, .int .i64 f.at_, .bool f.fail, .int .i64 f.n, .int .i64 f.at_] 26)).trans (hb.mono (by simp))
  replace Ha := Lib.hid ((hb.block _ (lt_of_block Ha.out)).trans Ha.out)
  replace Hb := Lib.hid ((hb.block _ (lt_of_block Hb.out)).trans Hb.out)
  replace Hf := Lib.hid ((hb.block _ (lt_of_block Hf.out)).trans Hf.out)
  replace HB := Lib.hid (HB.out.trans (hb.mono HB.out.size))
  clear hb
  have HX := Lib.hid (HKe.out g [f] (some ⟨w5.heap.size, 0, none⟩) 1 false (w5.alloc (.cells #[.bool f.fail, .int .i64 f.n, .int .i64 f.at_] 26)) k6.out (by simp) (rowC_at (K := PK) w5 26 [f] #[.bool f.fail, .int .i64 f.n, .int .i64 f.at_] w5.heap.size 1 rfl rfl rfl (by simp)))
  simp only [List.length_cons, List.length_nil, Nat.zero_add, Nat.reduceAdd] at HX
  obtain ⟨⟨c_a_0, c_a_1, c_a_2⟩, f_a_0, f_a_1, f_a_2⟩ := box_3 Ha.out
  obtain ⟨⟨c_b_0, c_b_1, c_b_2⟩, f_b_0, f_b_1, f_b_2⟩ := box_3 Hb.out
  obtain ⟨⟨c_f_0, c_f_1, c_f_2⟩, f_f_0, f_f_1, f_f_2⟩ := box_3 Hf.out
  go_wp2_with fail
  with_reducible refine HX.out.mono ?_
  rintro e w6 ⟨rfl, hb⟩
  clear c_a_0 c_a_1 c_a_2 f_a_0 f_a_1 f_a_2 c_b_0 c_b_1 c_b_2 f_b_0 f_b_1 f_b_2 c_f_0 c_f_1 c_f_2 f_f_0 f_f_1 f_f_2
  clear HX
  replace hb := (below1 w5 (.cells #[.bool f.fail, .int .i64 f.n, .int .i64 f.at_] 26)).trans (hb.mono (by simp))
  replace Ha := Lib.hid ((hb.block _ (lt_of_block Ha.out)).trans Ha.out)
  replace Hb := Lib.hid ((hb.block _ (lt_of_block Hb.out)).trans Hb.out)
  replace Hf := Lib.hid ((hb.block _ (lt_of_block Hf.out)).trans Hf.out)
  replace HB := Lib.hid (HB.out.trans (hb.mono HB.out.size))
  clear hb
  have HX := Lib.hid (HKe.out g [] none 0 true w6 k7.out (by simp) (row_none _))
  simp only [List.length_nil] at HX
  obtain ⟨⟨c_a_0, c_a_1, c_a_2⟩, f_a_0, f_a_1, f_a_2⟩ := box_3 Ha.out
  obtain ⟨⟨c_b_0, c_b_1, c_b_2⟩, f_b_0, f_b_1, f_b_2⟩ := box_3 Hb.out
  obtain ⟨⟨c_f_0, c_f_1, c_f_2⟩, f_f_0, f_f_1, f_f_2⟩ := box_3 Hf.out
  go_wp2_with fail
  with_reducible refine HX.out.mono ?_
  rintro e w7 ⟨rfl, hb⟩
  clear c_a_0 c_a_1 c_a_2 f_a_0 f_a_1 f_a_2 c_b_0 c_b_1 c_b_2 f_b_0 f_b_1 f_b_2 c_f_0 c_f_1 c_f_2 f_f_0 f_f_1 f_f_2
  clear HX
  replace Ha := Lib.hid ((hb.block _ (lt_of_block Ha.out)).trans Ha.out)
  replace Hb := Lib.hid ((hb.block _ (lt_of_block Hb.out)).trans Hb.out)
  replace Hf := Lib.hid ((hb.block _ (lt_of_block Hf.out)).trans Hf.out)
  replace HB := Lib.hid (HB.out.trans (hb.mono HB.out.size))
  clear hb
  by_cases hmz : m = 0
  · have hmb : (m == 0) = true := by simp [hmz]
    clear hmz
    go_wp2_with fail
    with_reducible refine (HWk.out _).mono ?_
    rintro e wf ⟨rfl, hb⟩
    have HBf := Lib.hid (HB.out.trans (hb.mono HB.out.size))
    clear hb
    go_wp2_with fail
    go_ret
    exact ⟨rfl, HBf.out⟩
  have hmb : (m == 0) = false := by simp [hmz]
  have HX := Lib.hid (HKe.out 0 [f, a] (some ⟨w7.heap.size, 0, none⟩) 2 false (w7.alloc (.cells #[.bool f.fail, .int .i64 f.n, .int .i64 f.at_, .bool a.fail, .int .i64 a.n, .int .i64 a.at_] 26)) k8.out (by simp) (rowC_at (K := PK) w7 26 [f, a] #[.bool f.fail, .int .i64 f.n, .int .i64 f.at_, .bool a.fail, .int .i64 a.n, .int .i64 a.at_] w7.heap.size 2 rfl rfl rfl (by simp)))
  simp only [List.length_cons, List.length_nil, Nat.zero_add, Nat.reduceAdd] at HX
  obtain ⟨⟨c_a_0, c_a_1, c_a_2⟩, f_a_0, f_a_1, f_a_2⟩ := box_3 Ha.out
  obtain ⟨⟨c_b_0, c_b_1, c_b_2⟩, f_b_0, f_b_1, f_b_2⟩ := box_3 Hb.out
  obtain ⟨⟨c_f_0, c_f_1, c_f_2⟩, f_f_0, f_f_1, f_f_2⟩ := box_3 Hf.out
  go_wp2_with fail
  with_reducible refine HX.out.mono ?_
  rintro e w8 ⟨rfl, hb⟩
  clear c_a_0 c_a_1 c_a_2 f_a_0 f_a_1 f_a_2 c_b_0 c_b_1 c_b_2 f_b_0 f_b_1 f_b_2 c_f_0 c_f_1 c_f_2 f_f_0 f_f_1 f_f_2
  clear HX
  replace hb := (below1 w7 (.cells #[.bool f.fail, .int .i64 f.n, .int .i64 f.at_, .bool a.fail, .int .i64 a.n, .int .i64 a.at_] 26)).trans (hb.mono (by simp))
  replace Ha := Lib.hid ((hb.block _ (lt_of_block Ha.out)).trans Ha.out)
  replace Hb := Lib.hid ((hb.block _ (lt_of_block Hb.out)).trans Hb.out)
  replace Hf := Lib.hid ((hb.block _ (lt_of_block Hf.out)).trans Hf.out)
  replace HB := Lib.hid (HB.out.trans (hb.mono HB.out.size))
  clear hb
  go_wp2_with fail
  with_reducible refine (HWk.out _).mono ?_
  rintro e wf ⟨rfl, hb⟩
  have HBf := Lib.hid (HB.out.trans (hb.mono HB.out.size))
  clear hb
  go_wp2_with fail
  go_ret
  exact ⟨rfl, HBf.out⟩
end Go.Proofs.Ytpncgcaepdkcnaa
