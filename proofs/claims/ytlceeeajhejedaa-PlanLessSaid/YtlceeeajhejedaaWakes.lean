/- What the document says of one plan. -/
import Derived.Test.YtlceeeajhejedaaSpecs
set_option linter.unusedSimpArgs false
set_option linter.unusedVariables false
namespace Go.Proofs.Ytlceeeajhejedaa
open Go.RowKit Go.Proofs.Ytlceeeajhejedaa.Kind

def adN (n : Int) : Ad := ⟨4, 2560, n, 0, 0, 0, 0, 0, 0, 80⟩
def planW : Pl := ⟨[⟨{ data := #[97] }, [[adN 1], [adN 2, adN 3]]⟩], [], 0, []⟩
theorem small_w : Small planW := by
  intro z hz
  simp only [planW, List.mem_cons, List.not_mem_nil, or_false] at hz
  subst hz
  decide
set_option maxHeartbeats 4000000 in
set_option maxRecDepth 1000000 in
theorem addr_any (n : Int) (w : World) :
    Calls Try.prog 14 #[.int .u16 n] w fun e w' => e = .returned (.agg #[.int .i8 4, .int .u16 2560, .int .u16 n, .int .u16 0, .int .u16 0, .int .u16 0, .int .u16 0, .int .u16 0, .int .u16 0, .int .i64 80]) ∧ Below w.heap.size w w' := by
  have HL := Lib.hid (laid1 w (.cells #[.int .i8 4, .int .u16 2560, .int .u16 n, .int .u16 0, .int .u16 0, .int .u16 0, .int .u16 0, .int .u16 0, .int .u16 0, .int .i64 80] 31))
  have HB := Lib.hid (below1 w (.cells #[.int .i8 4, .int .u16 2560, .int .u16 n, .int .u16 0, .int .u16 0, .int .u16 0, .int .u16 0, .int .u16 0, .int .u16 0, .int .i64 80] 31))
  go_enter Try.func14, Try.ntmps14
  go_wp2_with fail
  refine bodyPost_ret (res_cell rfl _ _ _ w.heap.size rfl _ (load10 (x := adN n) HL.out)) rfl ?_
  exact ⟨rfl, HB.out⟩

/-- The plan, laid. -/
theorem plan_laid (w : World) (g1 : Nat) (hR : AK.RowC w (some ⟨g1, 0, none⟩) 1 [adN 1]) :
    PlanC ((((w.alloc (.cells #[.int .i8 4, .int .u16 2560, .int .u16 2, .int .u16 0, .int .u16 0, .int .u16 0, .int .u16 0, .int .u16 0, .int .u16 0, .int .i64 80, .int .i8 4, .int .u16 2560, .int .u16 3, .int .u16 0, .int .u16 0, .int .u16 0, .int .u16 0, .int .u16 0, .int .u16 0, .int .i64 80] 31)).alloc (.cells #[.slice (some ⟨g1, 0, none⟩) 1 1, .slice (some ⟨w.heap.size, 0, none⟩) 2 2] 40)).alloc (.cells #[.string { data := #[97] }, .slice (some ⟨w.heap.size + 1, 0, none⟩) 2 2] 36)).alloc (.cells #[.slice (some ⟨w.heap.size + 1 + 1, 0, none⟩) 1 1, .slice none 0 0, .int .i64 0, .slice none 0 0] 26))
      ⟨some ⟨w.heap.size + 1 + 1, 0, none⟩, 1, none, 0, none, 0⟩ planW := by
  have r2 : AK.RowC (w.alloc (.cells #[.int .i8 4, .int .u16 2560, .int .u16 2, .int .u16 0, .int .u16 0, .int .u16 0, .int .u16 0, .int .u16 0, .int .u16 0, .int .i64 80, .int .i8 4, .int .u16 2560, .int .u16 3, .int .u16 0, .int .u16 0, .int .u16 0, .int .u16 0, .int .u16 0, .int .u16 0, .int .i64 80] 31)) (some ⟨w.heap.size, 0, none⟩) 2 [adN 2, adN 3] := rowC_at (K := AK) w 31 [adN 2, adN 3] _ w.heap.size 2 rfl rfl rfl (by simp)
  have r1 := hR.below (below1 w (.cells #[.int .i8 4, .int .u16 2560, .int .u16 2, .int .u16 0, .int .u16 0, .int .u16 0, .int .u16 0, .int .u16 0, .int .u16 0, .int .i64 80, .int .i8 4, .int .u16 2560, .int .u16 3, .int .u16 0, .int .u16 0, .int .u16 0, .int .u16 0, .int .u16 0, .int .u16 0, .int .i64 80] 31))
  generalize hW1 : w.alloc (.cells #[.int .i8 4, .int .u16 2560, .int .u16 2, .int .u16 0, .int .u16 0, .int .u16 0, .int .u16 0, .int .u16 0, .int .u16 0, .int .i64 80, .int .i8 4, .int .u16 2560, .int .u16 3, .int .u16 0, .int .u16 0, .int .u16 0, .int .u16 0, .int .u16 0, .int .u16 0, .int .i64 80] 31) = W1 at *
  have hs1 : W1.heap.size = w.heap.size + 1 := by rw [← hW1]; simp
  rw [← hs1]
  have r3 : HK.RowC (W1.alloc (.cells #[.slice (some ⟨g1, 0, none⟩) 1 1, .slice (some ⟨w.heap.size, 0, none⟩) 2 2] 40)) (some ⟨W1.heap.size, 0, none⟩) 2 [⟨some ⟨g1, 0, none⟩, 1, 1⟩, ⟨some ⟨w.heap.size, 0, none⟩, 2, 2⟩] := rowC_at (K := HK) W1 40 [⟨some ⟨g1, 0, none⟩, 1, 1⟩, ⟨some ⟨w.heap.size, 0, none⟩, 2, 2⟩] _ W1.heap.size 2 rfl rfl rfl (by simp)
  have hb := below1 W1 (.cells #[.slice (some ⟨g1, 0, none⟩) 1 1, .slice (some ⟨w.heap.size, 0, none⟩) 2 2] 40)
  have n3 : HK.NestC AnsP (W1.alloc (.cells #[.slice (some ⟨g1, 0, none⟩) 1 1, .slice (some ⟨w.heap.size, 0, none⟩) 2 2] 40)) (some ⟨W1.heap.size, 0, none⟩) 2 [⟨some ⟨g1, 0, none⟩, 1, 1⟩, ⟨some ⟨w.heap.size, 0, none⟩, 2, 2⟩] [[adN 1], [adN 2, adN 3]] := by
    refine ⟨rfl, r3, fun j h b h1 h2 => ?_⟩
    match j with
    | 0 => simp at h1 h2; subst h1 h2; exact ⟨rfl, r1.below hb⟩
    | 1 => simp at h1 h2; subst h1 h2; exact ⟨rfl, r2.below hb⟩
    | _ + 2 => simp at h1
  generalize hW2 : W1.alloc (.cells #[.slice (some ⟨g1, 0, none⟩) 1 1, .slice (some ⟨w.heap.size, 0, none⟩) 2 2] 40) = W2 at *
  have hs2 : W2.heap.size = W1.heap.size + 1 := by rw [← hW2]; simp
  rw [← hs2]
  have r4 : ZK.RowC (W2.alloc (.cells #[.string { data := #[97] }, .slice (some ⟨W1.heap.size, 0, none⟩) 2 2] 36)) (some ⟨W2.heap.size, 0, none⟩) 1 [⟨{ data := #[97] }, ⟨some ⟨W1.heap.size, 0, none⟩, 2, 2⟩⟩] := rowC_at (K := ZK) W2 36 [⟨{ data := #[97] }, ⟨some ⟨W1.heap.size, 0, none⟩, 2, 2⟩⟩] _ W2.heap.size 1 rfl rfl rfl (by simp)
  have n4 : ZK.NestC ZoP (W2.alloc (.cells #[.string { data := #[97] }, .slice (some ⟨W1.heap.size, 0, none⟩) 2 2] 36)) (some ⟨W2.heap.size, 0, none⟩) 1 [⟨{ data := #[97] }, ⟨some ⟨W1.heap.size, 0, none⟩, 2, 2⟩⟩] planW.zones := by
    refine ⟨rfl, r4, fun j h b h1 h2 => ?_⟩
    match j with
    | 0 => simp [planW] at h1 h2; subst h1 h2; exact ⟨rfl, rfl, _, n3.below ansP_steady (below1 W2 _)⟩
    | _ + 1 => simp at h1
  exact (⟨⟨_, n4⟩, ⟨[], nest_nil (fun w => row_none w) _⟩, row_none _⟩ : PlanC _ ⟨some ⟨W2.heap.size, 0, none⟩, 1, none, 0, none, 0⟩ planW).below (below1 _ _)

set_option maxHeartbeats 16000000 in
set_option maxRecDepth 1000000 in
theorem wakes_walk (R : Rules) (hR : checkB R planW = true) (HAn : AnswerSpec) (HFt : FateSpec) (HCk : CheckSpec R) (HNm : NamesSpec) : WakesSpec := by
  intro w
  have HAd := Lib.hid (fun n w => addr_any n w)
  have hfit : Fits planW := by
    refine ⟨?_, fun f hf => by simp [planW] at hf⟩
    intro z hz l hl
    simp [planW] at hz
    subst hz
    simp at hl
    rcases hl with rfl | rfl <;> simp
  have HA5 := Lib.hid (fun v w h => HAn planW v { data := #[97] } 5 w [adN 2, adN 3] 0 hfit h (by decide +kernel) (by decide +kernel))
  have HA0 := Lib.hid (fun v w h => HAn planW v { data := #[98] } 0 w [] 110 hfit h (by decide +kernel) (by decide +kernel))
  have HF0 := Lib.hid (fun v w h => HFt planW v (adN 1) 0 w 1 h (by decide +kernel))
  have HC0 := Lib.hid (fun v w h => HCk planW v w 0 small_w h (by rw [if_pos hR]))
  have HN0 := Lib.hid (fun v w h => HNm planW v w ⟨small_w, by decide, by decide⟩ h)
  clear HAn HFt HCk HNm hR hfit
  go_enter Try.func7, Try.ntmps7
  go_wp2_with fail
  with_reducible refine (HAd.out 1 _).mono ?_
  rintro e w1 ⟨rfl, hb⟩
  have HB1 := Lib.hid hb
  have HR1 := Lib.hid (rowC_at (K := AK) w1 31 [adN 1] #[.int .i8 4, .int .u16 2560, .int .u16 1, .int .u16 0, .int .u16 0, .int .u16 0, .int .u16 0, .int .u16 0, .int .u16 0, .int .i64 80] w1.heap.size 1 rfl rfl rfl (by simp))
  have hb1 := below1 w1 (.cells #[.int .i8 4, .int .u16 2560, .int .u16 1, .int .u16 0, .int .u16 0, .int .u16 0, .int .u16 0, .int .u16 0, .int .u16 0, .int .i64 80] 31)
  have HB1' := Lib.hid (HB1.out.trans (hb1.mono HB1.out.size))
  clear hb hb1
  go_wp2_with fail
  with_reducible refine (HAd.out 2 _).mono ?_
  rintro e w2 ⟨rfl, hb⟩
  have HB2 := Lib.hid (HB1'.out.trans (hb.mono HB1'.out.size))
  have HR2 := Lib.hid (HR1.out.below hb)
  clear hb
  go_wp2_with fail
  with_reducible refine (HAd.out 3 _).mono ?_
  rintro e w3 ⟨rfl, hb⟩
  have HB3 := Lib.hid (HB2.out.trans (hb.mono HB2.out.size))
  have HR3 := Lib.hid (HR2.out.below hb)
  generalize w1.heap.size = g1 at *
  have HP3 := Lib.hid (plan_laid w3 g1 HR3.out)
  have HQ := Lib.hid (show (((((w3.alloc (.cells #[.int .i8 4, .int .u16 2560, .int .u16 2, .int .u16 0, .int .u16 0, .int .u16 0, .int .u16 0, .int .u16 0, .int .u16 0, .int .i64 80, .int .i8 4, .int .u16 2560, .int .u16 3, .int .u16 0, .int .u16 0, .int .u16 0, .int .u16 0, .int .u16 0, .int .u16 0, .int .i64 80] 31)).alloc (.cells #[.slice (some ⟨g1, 0, none⟩) 1 1, .slice (some ⟨w3.heap.size, 0, none⟩) 2 2] 40)).alloc (.cells #[.string { data := #[97] }, .slice (some ⟨w3.heap.size + 1, 0, none⟩) 2 2] 36)).alloc (.cells #[.slice (some ⟨w3.heap.size + 1 + 1, 0, none⟩) 1 1, .slice none 0 0, .int .i64 0, .slice none 0 0] 26))).heap[w3.heap.size + 1 + 1 + 1]? = some (.cells #[.slice (some ⟨w3.heap.size + 1 + 1, 0, none⟩) 1 1, .slice none 0 0, .int .i64 0, .slice none 0 0] 26 (0, 0)) from by
    have := laid1 (((w3.alloc (.cells #[.int .i8 4, .int .u16 2560, .int .u16 2, .int .u16 0, .int .u16 0, .int .u16 0, .int .u16 0, .int .u16 0, .int .u16 0, .int .i64 80, .int .i8 4, .int .u16 2560, .int .u16 3, .int .u16 0, .int .u16 0, .int .u16 0, .int .u16 0, .int .u16 0, .int .u16 0, .int .i64 80] 31)).alloc (.cells #[.slice (some ⟨g1, 0, none⟩) 1 1, .slice (some ⟨w3.heap.size, 0, none⟩) 2 2] 40)).alloc (.cells #[.string { data := #[97] }, .slice (some ⟨w3.heap.size + 1, 0, none⟩) 2 2] 36)) (.cells #[.slice (some ⟨w3.heap.size + 1 + 1, 0, none⟩) 1 1, .slice none 0 0, .int .i64 0, .slice none 0 0] 26)
    simpa only [World.size_alloc] using this)
  have hbp : Below w3.heap.size w3 (((((w3.alloc (.cells #[.int .i8 4, .int .u16 2560, .int .u16 2, .int .u16 0, .int .u16 0, .int .u16 0, .int .u16 0, .int .u16 0, .int .u16 0, .int .i64 80, .int .i8 4, .int .u16 2560, .int .u16 3, .int .u16 0, .int .u16 0, .int .u16 0, .int .u16 0, .int .u16 0, .int .u16 0, .int .i64 80] 31)).alloc (.cells #[.slice (some ⟨g1, 0, none⟩) 1 1, .slice (some ⟨w3.heap.size, 0, none⟩) 2 2] 40)).alloc (.cells #[.string { data := #[97] }, .slice (some ⟨w3.heap.size + 1, 0, none⟩) 2 2] 36)).alloc (.cells #[.slice (some ⟨w3.heap.size + 1 + 1, 0, none⟩) 1 1, .slice none 0 0, .int .i64 0, .slice none 0 0] 26))) := ((((Below.refl _ _).alloc (Nat.le_refl _) _).alloc (by simp) _).alloc (by simp; omega) _).alloc (by simp; omega) _
  have HBP := Lib.hid (HB3.out.trans (hbp.mono HB3.out.size))
  clear hb hbp HR1 HR2 HB1' HB2
  go_wp2_with fail
  obtain ⟨WP, hWP⟩ : ∃ WP, WP = (((((w3.alloc (.cells #[.int .i8 4, .int .u16 2560, .int .u16 2, .int .u16 0, .int .u16 0, .int .u16 0, .int .u16 0, .int .u16 0, .int .u16 0, .int .i64 80, .int .i8 4, .int .u16 2560, .int .u16 3, .int .u16 0, .int .u16 0, .int .u16 0, .int .u16 0, .int .u16 0, .int .u16 0, .int .i64 80] 31)).alloc (.cells #[.slice (some ⟨g1, 0, none⟩) 1 1, .slice (some ⟨w3.heap.size, 0, none⟩) 2 2] 40)).alloc (.cells #[.string { data := #[97] }, .slice (some ⟨w3.heap.size + 1, 0, none⟩) 2 2] 36)).alloc (.cells #[.slice (some ⟨w3.heap.size + 1 + 1, 0, none⟩) 1 1, .slice none 0 0, .int .i64 0, .slice none 0 0] 26))) := ⟨_, rfl⟩
  rw [← hWP] at HP3 HQ HBP ⊢
  clear hWP HR3 HB3
  generalize w3.heap.size = G at *
  have hgp : G + 1 + 1 + 1 < WP.heap.size := lt_of_block HQ.out
  have hval : Pv.val ⟨some ⟨G + 1 + 1, 0, none⟩, 1, none, 0, none, 0⟩ planW = .agg #[.slice (some ⟨G + 1 + 1, 0, none⟩) 1 1, .slice none 0 0, .int .i64 0, .slice none 0 0] := rfl
  have HA5 := Lib.hid (fun w h => HA5.out ⟨some ⟨G + 1 + 1, 0, none⟩, 1, none, 0, none, 0⟩ w h)
  have HA0 := Lib.hid (fun w h => HA0.out ⟨some ⟨G + 1 + 1, 0, none⟩, 1, none, 0, none, 0⟩ w h)
  have HF0 := Lib.hid (fun w h => HF0.out ⟨some ⟨G + 1 + 1, 0, none⟩, 1, none, 0, none, 0⟩ w h)
  have HC0 := Lib.hid (fun w h => HC0.out ⟨some ⟨G + 1 + 1, 0, none⟩, 1, none, 0, none, 0⟩ w h)
  have HN0 := Lib.hid (fun w h => HN0.out ⟨some ⟨G + 1 + 1, 0, none⟩, 1, none, 0, none, 0⟩ w h)
  rw [hval] at HA5 HA0 HF0 HC0 HN0
  simp only [List.length_cons, List.length_nil, Nat.zero_add, Nat.reduceAdd] at HA5 HA0
  simp only [Ad.v, adN] at HF0
  clear hval
  have HX1 := Lib.hid (HA5.out WP HP3.out)
  with_reducible refine HX1.out.mono ?_
  rintro e w4 ⟨a2, c2, rfl, hR, hb⟩
  have HR4 := Lib.hid hR
  have HB4 := Lib.hid hb
  have HP4 := Lib.hid (HP3.out.below hb)
  have HQ4 := Lib.hid ((hb.block _ hgp).trans HQ.out)
  obtain ⟨⟨x0, x1, x2, x3⟩, _⟩ := box4 HQ4.out
  have HX2 := Lib.hid (HA0.out w4 HP4.out)
  clear hR hb HX1 HA5
  go_wp2_with fail
  with_reducible refine HX2.out.mono ?_
  rintro e w5 ⟨a3, c3, rfl, _, hb⟩
  have HR5 := Lib.hid (HR4.out.below hb)
  have HB5 := Lib.hid (HB4.out.trans (hb.mono HB4.out.size))
  have HQ5 := Lib.hid ((HB5.out.block _ hgp).trans HQ.out)
  have hg5 : G + 1 + 1 + 1 < w5.heap.size := lt_of_block HQ5.out
  obtain ⟨gl, ol, rfl, hgl, hatl⟩ := HR5.out.2.2.2 (by simp)
  have hcl := AK.ten hatl (j := 0) (x := adN 2) rfl
  simp only [Nat.zero_mul, Nat.add_zero, adN] at hcl
  have HCL := Lib.hid hcl
  have hq := eql_self_ad (adN 2)
  simp only [adN] at hq
  have hgd := guard_ad
  have HSB := Lib.hid (show ∀ W' : World, Below w5.heap.size w5 W' → (((W'.cell? ⟨G + 1 + 1 + 1, 0, none⟩ = some (.slice (some ⟨G + 1 + 1, 0, none⟩) 1 1) ∧ W'.cell? ⟨G + 1 + 1 + 1, 1, none⟩ = some (.slice none 0 0) ∧ W'.cell? ⟨G + 1 + 1 + 1, 2, none⟩ = some (.int .i64 0) ∧ W'.cell? ⟨G + 1 + 1 + 1, 3, none⟩ = some (.slice none 0 0)) ∧ (W'.cell? ⟨gl, ol, none⟩ = some (.int .i8 4) ∧ W'.cell? ⟨gl, ol + 1, none⟩ = some (.int .u16 2560) ∧ W'.cell? ⟨gl, ol + 2, none⟩ = some (.int .u16 2) ∧ W'.cell? ⟨gl, ol + 3, none⟩ = some (.int .u16 0) ∧ W'.cell? ⟨gl, ol + 4, none⟩ = some (.int .u16 0)) ∧ (W'.cell? ⟨gl, ol + 5, none⟩ = some (.int .u16 0) ∧ W'.cell? ⟨gl, ol + 6, none⟩ = some (.int .u16 0) ∧ W'.cell? ⟨gl, ol + 7, none⟩ = some (.int .u16 0) ∧ W'.cell? ⟨gl, ol + 8, none⟩ = some (.int .u16 0) ∧ W'.cell? ⟨gl, ol + 9, none⟩ = some (.int .i64 80))) ∧ Below w5.heap.size w5 W') from fun W' h => by
    have e0 : ∀ z, W'.cell? ⟨gl, z, none⟩ = w5.cell? ⟨gl, z, none⟩ := fun z => h.cell (p := ⟨gl, z, none⟩) hgl
    refine ⟨⟨(box4 ((h.block _ hg5).trans HQ5.out)).1, ?_⟩, h⟩
    simp only [e0]
    exact HCL.out)
  have HC1 := Lib.hid (fun W' (h : Below w5.heap.size w5 W') => HC0.out W' (HP3.out.below (HB5.out.trans (h.mono HB5.out.size))))
  have HF1 := Lib.hid (fun W' (h : Below w5.heap.size w5 W') => HF0.out W' (HP3.out.below (HB5.out.trans (h.mono HB5.out.size))))
  have HN1 := Lib.hid (fun W' (h : Below w5.heap.size w5 W') => HN0.out W' (HP3.out.below (HB5.out.trans (h.mono HB5.out.size))))
  clear hb HX2 HA0 HC0 HF0 HN0 HP4 HQ4 HB4 HR4 hatl hcl x0 x1 x2 x3
  go_upto_region 4 with fail
  go_region_held3 (fun W' => (((W'.cell? ⟨G + 1 + 1 + 1, 0, none⟩ = some (.slice (some ⟨G + 1 + 1, 0, none⟩) 1 1) ∧ W'.cell? ⟨G + 1 + 1 + 1, 1, none⟩ = some (.slice none 0 0) ∧ W'.cell? ⟨G + 1 + 1 + 1, 2, none⟩ = some (.int .i64 0) ∧ W'.cell? ⟨G + 1 + 1 + 1, 3, none⟩ = some (.slice none 0 0)) ∧ (W'.cell? ⟨gl, ol, none⟩ = some (.int .i8 4) ∧ W'.cell? ⟨gl, ol + 1, none⟩ = some (.int .u16 2560) ∧ W'.cell? ⟨gl, ol + 2, none⟩ = some (.int .u16 2) ∧ W'.cell? ⟨gl, ol + 3, none⟩ = some (.int .u16 0) ∧ W'.cell? ⟨gl, ol + 4, none⟩ = some (.int .u16 0)) ∧ (W'.cell? ⟨gl, ol + 5, none⟩ = some (.int .u16 0) ∧ W'.cell? ⟨gl, ol + 6, none⟩ = some (.int .u16 0) ∧ W'.cell? ⟨gl, ol + 7, none⟩ = some (.int .u16 0) ∧ W'.cell? ⟨gl, ol + 8, none⟩ = some (.int .u16 0) ∧ W'.cell? ⟨gl, ol + 9, none⟩ = some (.int .i64 80))) ∧ Below w5.heap.size w5 W'))
    (first | assumption | exact HSB.out _ (kept_alloc (by assumption) _) | exact HSB.out _ (kept_call (by assumption) hbC) | exact HSB.out _ (Below.refl _ _).drew)
    (first
      | (go_at_call 13; (with_reducible refine (HC1.out _ (kept_self (by assumption))).mono ?_); rintro e wC ⟨rfl, hbC⟩)
      | (go_at_call 14; (with_reducible refine (HAd.out _ _).mono ?_); rintro e wC ⟨rfl, hbC⟩)
      | (go_at_call 10; (with_reducible refine (HF1.out _ (kept_self (by assumption))).mono ?_); rintro e wC ⟨rfl, hbC⟩)
      | (go_at_call 12; (with_reducible refine (HN1.out _ (kept_self (by assumption))).mono ?_); rintro e wC ⟨LN, an, cn, rfl, _, hnm, hbC⟩; have hln := names_one (P := planW) rfl hnm))
  have HBC : Hid (Below w5.heap.size w5 wC) := Lib.hid (by first | exact kept_self (by assumption) | exact kept_call (by assumption) hbC | exact kept_call (by assumption) (Below.refl _ wC))
  have HBf := Lib.hid (HBP.out.trans ((HB5.out.trans (HBC.out.mono HB5.out.size)).mono HBP.out.size))
  clear HBC HSB HC1 HF1 HN1
  go_wp2_with fail
  go_ret
  exact ⟨by first | rfl | (rw [hln]; rfl) | simp [hln], HBf.out⟩
end Go.Proofs.Ytlceeeajhejedaa
