/- OrderTells walked. -/
import Derived.Test.YtcihcdifjnobjaaLawB
set_option linter.unusedSimpArgs false
set_option linter.unusedVariables false
namespace Go.Proofs.Ytcihcdifjnobjaa
open Go.RowKit Go.Proofs.Ytcihcdifjnobjaa.Kind

set_option maxHeartbeats 40000000 in
set_option maxRecDepth 1000000 in
theorem ordertells_walk (HOn : OnceSpec) (HTu : TurnsSpec) (HLi : ListSpec) (HFi : FirstSpec) (HPl : PlaceSpec) (HWk : WakesSpec) (l m : List Ad) (a : Ad) (n : Int) (s s1 : Option Addr) (c c1 : Nat) (w : World) (kl : OkL l) (km : OkL m) (hR : AK.RowC w s c l) (hM : AK.RowC w s1 c1 m) :
    Calls Try.prog 3 #[.slice s l.length c, .slice s1 m.length c1, a.v, .int .i64 n] w fun e w' => e = .returned (.bool true) ∧ Below w.heap.size w w' := by
  have HOn := Lib.hid (fun l s c L w h h1 h2 => HOn l s c L w h h1 h2)
  have HTu := Lib.hid (fun l s c L w h h1 h2 => HTu l s c L w h h1 h2)
  have HLi := Lib.hid (fun l bad s v c d L w h h1 h2 h3 h4 => HLi l bad s v c d L w h h1 h2 h3 h4)
  have HFi := Lib.hid (fun n l s c L w h h1 h2 => HFi n l s c L w h h1 h2)
  have HPl := Lib.hid (fun l a s c r w h h1 h2 => HPl l a s c r w h h1 h2)
  have HWk := Lib.hid (fun w => HWk w)
  have HB := Lib.hid (Below.refl w.heap.size w)
  have Hl := Lib.hid hR
  have hml : l.length ≤ 9223372036854775807 := by have h1 := hR.1; have h2 := hR.2.1; unfold maxLen at h2; omega
  have Hm := Lib.hid hM
  have hmm : m.length ≤ 9223372036854775807 := by have h1 := hM.1; have h2 := hM.2.1; unfold maxLen at h2; omega
  have HKl := Lib.hid kl
  clear kl
  have HKm := Lib.hid km
  clear km
  clear hR hM
  simp only [Ad.v]
  go_enter Try.func3, Try.ntmps3
  go_upto_region 1 with fail
  obtain ⟨q1, hq1⟩ : ∃ X, X = w.alloc (.cells #[.int .i8 a.f, .int .u16 a.g0, .int .u16 a.g1, .int .u16 a.g2, .int .u16 a.g3, .int .u16 a.g4, .int .u16 a.g5, .int .u16 a.g6, .int .u16 a.g7, .int .i64 a.p] 27) := ⟨_, rfl⟩
  have hb : Below w.heap.size w q1 := by rw [hq1]; exact below1 _ _
  have hL := laid1 w (.cells #[.int .i8 a.f, .int .u16 a.g0, .int .u16 a.g1, .int .u16 a.g2, .int .u16 a.g3, .int .u16 a.g4, .int .u16 a.g5, .int .u16 a.g6, .int .u16 a.g7, .int .i64 a.p] 27)
  rw [← hq1] at hL ⊢
  clear hq1
  obtain ⟨ba, hba⟩ : ∃ n, n = w.heap.size := ⟨_, rfl⟩
  rw [← hba] at hL ⊢
  have hsa : w.heap.size ≤ ba := by rw [hba]; exact HB.out.size
  clear hba
  replace Hl := Lib.hid (Hl.out.below hb)
  replace Hm := Lib.hid (Hm.out.below hb)
  replace HB := Lib.hid (HB.out.trans (hb.mono HB.out.size))
  clear hb
  have Ha := Lib.hid hL
  clear hL
  have HG := Lib.hid (rgreatA_any l s c _ q1 rfl hml)
  by_cases hg0 : 60 < l.length
  · rw [decide_eq_true hg0] at HG
    go_wp2_with fail
    (with_reducible refine HG.out.mono ?_)
    rintro e w1 ⟨rfl, hw1⟩
    subst w1
    go_wp2_with fail
    with_reducible refine (HWk.out _).mono ?_
    rintro e wf ⟨rfl, hb⟩
    have HBf := Lib.hid (HB.out.trans (hb.mono HB.out.size))
    clear hb
    go_wp2_with fail
    go_ret
    exact ⟨rfl, HBf.out⟩
  rw [decide_eq_false hg0] at HG
  go_wp2_with fail
  (with_reducible refine HG.out.mono ?_)
  rintro e w1 ⟨rfl, hw1⟩
  subst w1
  clear HG
  have HG := Lib.hid (rgreatA_any m s1 c1 _ q1 rfl hmm)
  by_cases hg1 : 60 < m.length
  · rw [decide_eq_true hg1] at HG
    go_wp2_with fail
    (with_reducible refine HG.out.mono ?_)
    rintro e w1 ⟨rfl, hw1⟩
    subst w1
    go_wp2_with fail
    with_reducible refine (HWk.out _).mono ?_
    rintro e wf ⟨rfl, hb⟩
    have HBf := Lib.hid (HB.out.trans (hb.mono HB.out.size))
    clear hb
    go_wp2_with fail
    go_ret
    exact ⟨rfl, HBf.out⟩
  rw [decide_eq_false hg1] at HG
  go_wp2_with fail
  (with_reducible refine HG.out.mono ?_)
  rintro e w1 ⟨rfl, hw1⟩
  subst w1
  clear HG
  have hll : l.length ≤ 60 := by omega
  have hlm : m.length ≤ 60 := by omega
  obtain ⟨L1, hL1⟩ : ∃ x, x = Turn.once l := ⟨_, rfl⟩
  obtain ⟨L2, hL2⟩ : ∃ x, x = Turn.turns famA l := ⟨_, rfl⟩
  obtain ⟨L3, hL3⟩ : ∃ x, x = Turn.list famA l m := ⟨_, rfl⟩
  obtain ⟨L4, hL4⟩ : ∃ x, x = firstZ n l := ⟨_, rfl⟩
  obtain ⟨pz, hpz⟩ : ∃ x, x = placeZ l a := ⟨_, rfl⟩
  replace hL1 := Lib.hid hL1
  replace hL2 := Lib.hid hL2
  replace hL3 := Lib.hid hL3
  replace hL4 := Lib.hid hL4
  replace hpz := Lib.hid hpz
  have hpp : (pz == pz) = true := by simp
  go_upto_region 3 with fail
  have RTu := Lib.hid (fun (W : World) (h : AK.RowC W s c l) => ((rturns_any l s c L2 W hL2.out (by omega) h).mono fun e w' ⟨a1, c1, he, ho, hb⟩ => ⟨a1, c1, he, ho.row, hb⟩ : Calls Try.prog 15 #[.slice s l.length c] W fun e w' => ∃ a1 c1, e = .returned (.slice a1 L2.length c1) ∧ AK.RowC w' a1 c1 L2 ∧ Below W.heap.size W w'))
  refine ByOps.region_by_sk (by kernel_rfl) (ByOps.facts [.val (.slice s l.length c), rowA (L1), .val (.slice s l.length c), rowA (L1), .val (.bool true), .val (.bool true), .val (.slice s l.length c), rowA (L2), .val (.slice s l.length c), rowA (L2), .val (.bool true), .val (.bool true), .val (.bool true), .val (.slice s l.length c), .val (.slice s1 m.length c1), rowA (L3), .val (.slice s l.length c), .val (.slice s1 m.length c1), rowA (L3), .val (.bool true), .val (.bool true), .val (.bool true), .val (.int .i64 n), .val (.slice s l.length c), rowA (L4), .val (.int .i64 n), .val (.slice s l.length c), rowA (L4), .val (.bool true), .val (.bool true), .val (.bool true), .val (.slice s l.length c), .val (.agg #[.int .i8 a.f, .int .u16 a.g0, .int .u16 a.g1, .int .u16 a.g2, .int .u16 a.g3, .int .u16 a.g4, .int .u16 a.g5, .int .u16 a.g6, .int .u16 a.g7, .int .i64 a.p]), .val (.int .i64 pz), .val (.slice s l.length c), .val (.agg #[.int .i8 a.f, .int .u16 a.g0, .int .u16 a.g1, .int .u16 a.g2, .int .u16 a.g3, .int .u16 a.g4, .int .u16 a.g5, .int .u16 a.g6, .int .u16 a.g7, .int .i64 a.p]), .val (.int .i64 pz), .val (.bool true), .val (.bool true), .val (.bool true), .val (.bool true), .val (.bool true), .val (.bool true)]) (ByOps.facts_up _) (by kernel_rfl) (fun _ => false) (ByOps.all_ops ?_) (ByOps.all_ops ?_) (ByOps.all_ops ?_) ?_
  · refine ⟨?_, ?_, ?_, ?_, ?_, ?_, ?_, ?_, ?_, ?_, ?_, ?_, ?_, ?_, ?_, ?_, ?_, ?_, ?_, ?_, ?_, ?_, ?_, ?_, ?_, ?_, ?_, ?_, ?_, ?_, ?_, ?_, ?_, ?_, ?_, ?_, ?_, ?_, ?_, ?_, ?_, ?_, ?_, trivial⟩
    · intro _ ρ w9 hB hs
      have hBB : Below q1.heap.size q1 w9 := ⟨hB.os, hB.tape, hB.output, hB.size, hB.block⟩
      have h0 : ρ (.tmp 0) = .slice s l.length c := (hs _ (by simp [Op.operands, Call.operands])).2 (fun t ht => by cases ht; kernel_rfl)
      exact ByOps.runs_value (by first | rfl | go_simp) (Below.refl _ _) h0
    · intro _ ρ w9 hB hs
      have hBB : Below q1.heap.size q1 w9 := ⟨hB.os, hB.tape, hB.output, hB.size, hB.block⟩
      have h16 : ρ (.tmp 16) = .slice s l.length c := (hs (.tmp 16) (by simp [Op.operands, Call.operands])).1 16 rfl 0 _ rfl rfl
      have hfn : ρ (.func 12) = .func (.func 12) #[] #[] := (hs _ (by simp [Op.operands, Call.operands])).2 (fun t ht => by cases ht)
      refine ByOps.runs_enter (f := 12) (args := #[.slice s l.length c]) (by go_simp) ?_
      exact (HOn.out l s c L1 w9 ⟨hL1.out, HKl.out⟩ (by omega) (Hl.out.below hBB)).mono fun e w2 ⟨a1, c1, he, hR, hb⟩ => ⟨_, he, hb, a1, c1, rfl, hR⟩
    · intro _ ρ w9 hB hs
      have hBB : Below q1.heap.size q1 w9 := ⟨hB.os, hB.tape, hB.output, hB.size, hB.block⟩
      have h0 : ρ (.tmp 0) = .slice s l.length c := (hs _ (by simp [Op.operands, Call.operands])).2 (fun t ht => by cases ht; kernel_rfl)
      exact ByOps.runs_value (by first | rfl | go_simp) (Below.refl _ _) h0
    · intro _ ρ w9 hB hs
      have hBB : Below q1.heap.size q1 w9 := ⟨hB.os, hB.tape, hB.output, hB.size, hB.block⟩
      have h18 : ρ (.tmp 18) = .slice s l.length c := (hs (.tmp 18) (by simp [Op.operands, Call.operands])).1 18 rfl 2 _ rfl rfl
      have hfn : ρ (.func 13) = .func (.func 13) #[] #[] := (hs _ (by simp [Op.operands, Call.operands])).2 (fun t ht => by cases ht)
      refine ByOps.runs_enter (f := 13) (args := #[.slice s l.length c]) (by go_simp) ?_
      exact (ronce_any l s c L1 w9 hL1.out (by omega) (Hl.out.below hBB)).mono fun e w2 ⟨a1, c1, he, hR, hb⟩ => ⟨_, he, hb, a1, c1, rfl, hR⟩
    · intro _ ρ w9 hB hs
      have hBB : Below q1.heap.size q1 w9 := ⟨hB.os, hB.tape, hB.output, hB.size, hB.block⟩
      have h17 : ∃ a1 c1, ρ (.tmp 17) = .slice a1 (L1 : List Ad).length c1 ∧ AK.RowC w9 a1 c1 (L1) := (hs (.tmp 17) (by simp [Op.operands, Call.operands])).1 17 rfl 1 _ rfl rfl
      obtain ⟨ra17, rc17, h17, hR17⟩ := h17
      have h19 : ∃ a1 c1, ρ (.tmp 19) = .slice a1 (L1 : List Ad).length c1 ∧ AK.RowC w9 a1 c1 (L1) := (hs (.tmp 19) (by simp [Op.operands, Call.operands])).1 19 rfl 3 _ rfl rfl
      obtain ⟨ra19, rc19, h19, hR19⟩ := h19
      have hfn : ρ (.func 11) = .func (.func 11) #[] #[] := (hs _ (by simp [Op.operands, Call.operands])).2 (fun t ht => by cases ht)
      refine ByOps.runs_enter (f := 11) (args := #[.slice ra17 (L1 : List Ad).length rc17, .slice ra19 (L1 : List Ad).length rc19]) (by go_simp) ?_
      exact (rsame_any L1 L1 ra17 ra19 rc17 rc19 true w9 (by simp) hR17 hR19).mono fun e w2 ⟨he, hb⟩ => ⟨_, he, hb, rfl⟩
    · intro _ ρ w9 hB hs
      have hBB : Below q1.heap.size q1 w9 := ⟨hB.os, hB.tape, hB.output, hB.size, hB.block⟩
      have h20 : ρ (.tmp 20) = .bool true := (hs (.tmp 20) (by simp [Op.operands, Call.operands])).1 20 rfl 4 _ rfl rfl
      exact ByOps.runs_value (by first | rfl | go_simp) (Below.refl _ _) h20
    · intro _ ρ w9 hB hs
      have hBB : Below q1.heap.size q1 w9 := ⟨hB.os, hB.tape, hB.output, hB.size, hB.block⟩
      have h0 : ρ (.tmp 0) = .slice s l.length c := (hs _ (by simp [Op.operands, Call.operands])).2 (fun t ht => by cases ht; kernel_rfl)
      exact ByOps.runs_value (by first | rfl | go_simp) (Below.refl _ _) h0
    · intro _ ρ w9 hB hs
      have hBB : Below q1.heap.size q1 w9 := ⟨hB.os, hB.tape, hB.output, hB.size, hB.block⟩
      have h22 : ρ (.tmp 22) = .slice s l.length c := (hs (.tmp 22) (by simp [Op.operands, Call.operands])).1 22 rfl 6 _ rfl rfl
      have hfn : ρ (.func 14) = .func (.func 14) #[] #[] := (hs _ (by simp [Op.operands, Call.operands])).2 (fun t ht => by cases ht)
      refine ByOps.runs_enter (f := 14) (args := #[.slice s l.length c]) (by go_simp) ?_
      exact (HTu.out l s c L2 w9 ⟨hL2.out, HKl.out⟩ (by omega) (Hl.out.below hBB)).mono fun e w2 ⟨a1, c1, he, hR, hb⟩ => ⟨_, he, hb, a1, c1, rfl, hR⟩
    · intro _ ρ w9 hB hs
      have hBB : Below q1.heap.size q1 w9 := ⟨hB.os, hB.tape, hB.output, hB.size, hB.block⟩
      have h0 : ρ (.tmp 0) = .slice s l.length c := (hs _ (by simp [Op.operands, Call.operands])).2 (fun t ht => by cases ht; kernel_rfl)
      exact ByOps.runs_value (by first | rfl | go_simp) (Below.refl _ _) h0
    · intro _ ρ w9 hB hs
      have hBB : Below q1.heap.size q1 w9 := ⟨hB.os, hB.tape, hB.output, hB.size, hB.block⟩
      have h24 : ρ (.tmp 24) = .slice s l.length c := (hs (.tmp 24) (by simp [Op.operands, Call.operands])).1 24 rfl 8 _ rfl rfl
      have hfn : ρ (.func 15) = .func (.func 15) #[] #[] := (hs _ (by simp [Op.operands, Call.operands])).2 (fun t ht => by cases ht)
      refine ByOps.runs_enter (f := 15) (args := #[.slice s l.length c]) (by go_simp) ?_
      exact (RTu.out w9 (Hl.out.below hBB)).mono fun e w2 ⟨a1, c1, he, hR, hb⟩ => ⟨_, he, hb, a1, c1, rfl, hR⟩
    · intro _ ρ w9 hB hs
      have hBB : Below q1.heap.size q1 w9 := ⟨hB.os, hB.tape, hB.output, hB.size, hB.block⟩
      have h23 : ∃ a1 c1, ρ (.tmp 23) = .slice a1 (L2 : List Ad).length c1 ∧ AK.RowC w9 a1 c1 (L2) := (hs (.tmp 23) (by simp [Op.operands, Call.operands])).1 23 rfl 7 _ rfl rfl
      obtain ⟨ra23, rc23, h23, hR23⟩ := h23
      have h25 : ∃ a1 c1, ρ (.tmp 25) = .slice a1 (L2 : List Ad).length c1 ∧ AK.RowC w9 a1 c1 (L2) := (hs (.tmp 25) (by simp [Op.operands, Call.operands])).1 25 rfl 9 _ rfl rfl
      obtain ⟨ra25, rc25, h25, hR25⟩ := h25
      have hfn : ρ (.func 11) = .func (.func 11) #[] #[] := (hs _ (by simp [Op.operands, Call.operands])).2 (fun t ht => by cases ht)
      refine ByOps.runs_enter (f := 11) (args := #[.slice ra23 (L2 : List Ad).length rc23, .slice ra25 (L2 : List Ad).length rc25]) (by go_simp) ?_
      exact (rsame_any L2 L2 ra23 ra25 rc23 rc25 true w9 (by simp) hR23 hR25).mono fun e w2 ⟨he, hb⟩ => ⟨_, he, hb, rfl⟩
    · intro _ ρ w9 hB hs
      have hBB : Below q1.heap.size q1 w9 := ⟨hB.os, hB.tape, hB.output, hB.size, hB.block⟩
      have h21 : ρ (.tmp 21) = .bool true := (hs (.tmp 21) (by simp [Op.operands, Call.operands])).1 21 rfl 5 _ rfl rfl
      have h26 : ρ (.tmp 26) = .bool true := (hs (.tmp 26) (by simp [Op.operands, Call.operands])).1 26 rfl 10 _ rfl rfl
      exact ByOps.runs_value (v := .bool true) (by first | rfl | go_simp) (Below.refl _ _) rfl
    · intro _ ρ w9 hB hs
      have hBB : Below q1.heap.size q1 w9 := ⟨hB.os, hB.tape, hB.output, hB.size, hB.block⟩
      have h27 : ρ (.tmp 27) = .bool true := (hs (.tmp 27) (by simp [Op.operands, Call.operands])).1 27 rfl 11 _ rfl rfl
      exact ByOps.runs_value (by first | rfl | go_simp) (Below.refl _ _) h27
    · intro _ ρ w9 hB hs
      have hBB : Below q1.heap.size q1 w9 := ⟨hB.os, hB.tape, hB.output, hB.size, hB.block⟩
      have h0 : ρ (.tmp 0) = .slice s l.length c := (hs _ (by simp [Op.operands, Call.operands])).2 (fun t ht => by cases ht; kernel_rfl)
      exact ByOps.runs_value (by first | rfl | go_simp) (Below.refl _ _) h0
    · intro _ ρ w9 hB hs
      have hBB : Below q1.heap.size q1 w9 := ⟨hB.os, hB.tape, hB.output, hB.size, hB.block⟩
      have h1 : ρ (.tmp 1) = .slice s1 m.length c1 := (hs _ (by simp [Op.operands, Call.operands])).2 (fun t ht => by cases ht; kernel_rfl)
      exact ByOps.runs_value (by first | rfl | go_simp) (Below.refl _ _) h1
    · intro _ ρ w9 hB hs
      have hBB : Below q1.heap.size q1 w9 := ⟨hB.os, hB.tape, hB.output, hB.size, hB.block⟩
      have h29 : ρ (.tmp 29) = .slice s l.length c := (hs (.tmp 29) (by simp [Op.operands, Call.operands])).1 29 rfl 13 _ rfl rfl
      have h30 : ρ (.tmp 30) = .slice s1 m.length c1 := (hs (.tmp 30) (by simp [Op.operands, Call.operands])).1 30 rfl 14 _ rfl rfl
      have hfn : ρ (.func 16) = .func (.func 16) #[] #[] := (hs _ (by simp [Op.operands, Call.operands])).2 (fun t ht => by cases ht)
      refine ByOps.runs_enter (f := 16) (args := #[.slice s l.length c, .slice s1 m.length c1]) (by go_simp) ?_
      exact (HLi.out l m s s1 c c1 L3 w9 ⟨hL3.out, HKl.out, HKm.out⟩ (by omega) (by omega) (Hl.out.below hBB) (Hm.out.below hBB)).mono fun e w2 ⟨a1, c1, he, hR, hb⟩ => ⟨_, he, hb, a1, c1, rfl, hR⟩
    · intro _ ρ w9 hB hs
      have hBB : Below q1.heap.size q1 w9 := ⟨hB.os, hB.tape, hB.output, hB.size, hB.block⟩
      have h0 : ρ (.tmp 0) = .slice s l.length c := (hs _ (by simp [Op.operands, Call.operands])).2 (fun t ht => by cases ht; kernel_rfl)
      exact ByOps.runs_value (by first | rfl | go_simp) (Below.refl _ _) h0
    · intro _ ρ w9 hB hs
      have hBB : Below q1.heap.size q1 w9 := ⟨hB.os, hB.tape, hB.output, hB.size, hB.block⟩
      have h1 : ρ (.tmp 1) = .slice s1 m.length c1 := (hs _ (by simp [Op.operands, Call.operands])).2 (fun t ht => by cases ht; kernel_rfl)
      exact ByOps.runs_value (by first | rfl | go_simp) (Below.refl _ _) h1
    · intro _ ρ w9 hB hs
      have hBB : Below q1.heap.size q1 w9 := ⟨hB.os, hB.tape, hB.output, hB.size, hB.block⟩
      have h32 : ρ (.tmp 32) = .slice s l.length c := (hs (.tmp 32) (by simp [Op.operands, Call.operands])).1 32 rfl 16 _ rfl rfl
      have h33 : ρ (.tmp 33) = .slice s1 m.length c1 := (hs (.tmp 33) (by simp [Op.operands, Call.operands])).1 33 rfl 17 _ rfl rfl
      have hfn : ρ (.func 17) = .func (.func 17) #[] #[] := (hs _ (by simp [Op.operands, Call.operands])).2 (fun t ht => by cases ht)
      refine ByOps.runs_enter (f := 17) (args := #[.slice s l.length c, .slice s1 m.length c1]) (by go_simp) ?_
      exact (rlist_any l m s s1 c c1 L3 w9 hL3.out (by omega) (by omega) (Hl.out.below hBB) (Hm.out.below hBB)).mono fun e w2 ⟨a1, c1, he, hR, hb⟩ => ⟨_, he, hb, a1, c1, rfl, hR⟩
    · intro _ ρ w9 hB hs
      have hBB : Below q1.heap.size q1 w9 := ⟨hB.os, hB.tape, hB.output, hB.size, hB.block⟩
      have h31 : ∃ a1 c1, ρ (.tmp 31) = .slice a1 (L3 : List Ad).length c1 ∧ AK.RowC w9 a1 c1 (L3) := (hs (.tmp 31) (by simp [Op.operands, Call.operands])).1 31 rfl 15 _ rfl rfl
      obtain ⟨ra31, rc31, h31, hR31⟩ := h31
      have h34 : ∃ a1 c1, ρ (.tmp 34) = .slice a1 (L3 : List Ad).length c1 ∧ AK.RowC w9 a1 c1 (L3) := (hs (.tmp 34) (by simp [Op.operands, Call.operands])).1 34 rfl 18 _ rfl rfl
      obtain ⟨ra34, rc34, h34, hR34⟩ := h34
      have hfn : ρ (.func 11) = .func (.func 11) #[] #[] := (hs _ (by simp [Op.operands, Call.operands])).2 (fun t ht => by cases ht)
      refine ByOps.runs_enter (f := 11) (args := #[.slice ra31 (L3 : List Ad).length rc31, .slice ra34 (L3 : List Ad).length rc34]) (by go_simp) ?_
      exact (rsame_any L3 L3 ra31 ra34 rc31 rc34 true w9 (by simp) hR31 hR34).mono fun e w2 ⟨he, hb⟩ => ⟨_, he, hb, rfl⟩
    · intro _ ρ w9 hB hs
      have hBB : Below q1.heap.size q1 w9 := ⟨hB.os, hB.tape, hB.output, hB.size, hB.block⟩
      have h28 : ρ (.tmp 28) = .bool true := (hs (.tmp 28) (by simp [Op.operands, Call.operands])).1 28 rfl 12 _ rfl rfl
      have h35 : ρ (.tmp 35) = .bool true := (hs (.tmp 35) (by simp [Op.operands, Call.operands])).1 35 rfl 19 _ rfl rfl
      exact ByOps.runs_value (v := .bool true) (by first | rfl | go_simp) (Below.refl _ _) rfl
    · intro _ ρ w9 hB hs
      have hBB : Below q1.heap.size q1 w9 := ⟨hB.os, hB.tape, hB.output, hB.size, hB.block⟩
      have h36 : ρ (.tmp 36) = .bool true := (hs (.tmp 36) (by simp [Op.operands, Call.operands])).1 36 rfl 20 _ rfl rfl
      exact ByOps.runs_value (by first | rfl | go_simp) (Below.refl _ _) h36
    · intro _ ρ w9 hB hs
      have hBB : Below q1.heap.size q1 w9 := ⟨hB.os, hB.tape, hB.output, hB.size, hB.block⟩
      have h3 : ρ (.tmp 3) = .int .i64 n := (hs _ (by simp [Op.operands, Call.operands])).2 (fun t ht => by cases ht; kernel_rfl)
      exact ByOps.runs_value (by first | rfl | go_simp) (Below.refl _ _) h3
    · intro _ ρ w9 hB hs
      have hBB : Below q1.heap.size q1 w9 := ⟨hB.os, hB.tape, hB.output, hB.size, hB.block⟩
      have h0 : ρ (.tmp 0) = .slice s l.length c := (hs _ (by simp [Op.operands, Call.operands])).2 (fun t ht => by cases ht; kernel_rfl)
      exact ByOps.runs_value (by first | rfl | go_simp) (Below.refl _ _) h0
    · intro _ ρ w9 hB hs
      have hBB : Below q1.heap.size q1 w9 := ⟨hB.os, hB.tape, hB.output, hB.size, hB.block⟩
      have h38 : ρ (.tmp 38) = .int .i64 n := (hs (.tmp 38) (by simp [Op.operands, Call.operands])).1 38 rfl 22 _ rfl rfl
      have h39 : ρ (.tmp 39) = .slice s l.length c := (hs (.tmp 39) (by simp [Op.operands, Call.operands])).1 39 rfl 23 _ rfl rfl
      have hfn : ρ (.func 18) = .func (.func 18) #[] #[] := (hs _ (by simp [Op.operands, Call.operands])).2 (fun t ht => by cases ht)
      refine ByOps.runs_enter (f := 18) (args := #[.int .i64 n, .slice s l.length c]) (by go_simp) ?_
      exact (HFi.out n l s c L4 w9 hL4.out (by omega) (Hl.out.below hBB)).mono fun e w2 ⟨a1, c1, he, hR, hb⟩ => ⟨_, he, hb, a1, c1, rfl, hR⟩
    · intro _ ρ w9 hB hs
      have hBB : Below q1.heap.size q1 w9 := ⟨hB.os, hB.tape, hB.output, hB.size, hB.block⟩
      have h3 : ρ (.tmp 3) = .int .i64 n := (hs _ (by simp [Op.operands, Call.operands])).2 (fun t ht => by cases ht; kernel_rfl)
      exact ByOps.runs_value (by first | rfl | go_simp) (Below.refl _ _) h3
    · intro _ ρ w9 hB hs
      have hBB : Below q1.heap.size q1 w9 := ⟨hB.os, hB.tape, hB.output, hB.size, hB.block⟩
      have h0 : ρ (.tmp 0) = .slice s l.length c := (hs _ (by simp [Op.operands, Call.operands])).2 (fun t ht => by cases ht; kernel_rfl)
      exact ByOps.runs_value (by first | rfl | go_simp) (Below.refl _ _) h0
    · intro _ ρ w9 hB hs
      have hBB : Below q1.heap.size q1 w9 := ⟨hB.os, hB.tape, hB.output, hB.size, hB.block⟩
      have h41 : ρ (.tmp 41) = .int .i64 n := (hs (.tmp 41) (by simp [Op.operands, Call.operands])).1 41 rfl 25 _ rfl rfl
      have h42 : ρ (.tmp 42) = .slice s l.length c := (hs (.tmp 42) (by simp [Op.operands, Call.operands])).1 42 rfl 26 _ rfl rfl
      have hfn : ρ (.func 19) = .func (.func 19) #[] #[] := (hs _ (by simp [Op.operands, Call.operands])).2 (fun t ht => by cases ht)
      refine ByOps.runs_enter (f := 19) (args := #[.int .i64 n, .slice s l.length c]) (by go_simp) ?_
      exact (rfirst_any n l s c L4 w9 hL4.out (by omega) (Hl.out.below hBB)).mono fun e w2 ⟨a1, c1, he, hR, hb⟩ => ⟨_, he, hb, a1, c1, rfl, hR⟩
    · intro _ ρ w9 hB hs
      have hBB : Below q1.heap.size q1 w9 := ⟨hB.os, hB.tape, hB.output, hB.size, hB.block⟩
      have h40 : ∃ a1 c1, ρ (.tmp 40) = .slice a1 (L4 : List Ad).length c1 ∧ AK.RowC w9 a1 c1 (L4) := (hs (.tmp 40) (by simp [Op.operands, Call.operands])).1 40 rfl 24 _ rfl rfl
      obtain ⟨ra40, rc40, h40, hR40⟩ := h40
      have h43 : ∃ a1 c1, ρ (.tmp 43) = .slice a1 (L4 : List Ad).length c1 ∧ AK.RowC w9 a1 c1 (L4) := (hs (.tmp 43) (by simp [Op.operands, Call.operands])).1 43 rfl 27 _ rfl rfl
      obtain ⟨ra43, rc43, h43, hR43⟩ := h43
      have hfn : ρ (.func 11) = .func (.func 11) #[] #[] := (hs _ (by simp [Op.operands, Call.operands])).2 (fun t ht => by cases ht)
      refine ByOps.runs_enter (f := 11) (args := #[.slice ra40 (L4 : List Ad).length rc40, .slice ra43 (L4 : List Ad).length rc43]) (by go_simp) ?_
      exact (rsame_any L4 L4 ra40 ra43 rc40 rc43 true w9 (by simp) hR40 hR43).mono fun e w2 ⟨he, hb⟩ => ⟨_, he, hb, rfl⟩
    · intro _ ρ w9 hB hs
      have hBB : Below q1.heap.size q1 w9 := ⟨hB.os, hB.tape, hB.output, hB.size, hB.block⟩
      have h37 : ρ (.tmp 37) = .bool true := (hs (.tmp 37) (by simp [Op.operands, Call.operands])).1 37 rfl 21 _ rfl rfl
      have h44 : ρ (.tmp 44) = .bool true := (hs (.tmp 44) (by simp [Op.operands, Call.operands])).1 44 rfl 28 _ rfl rfl
      exact ByOps.runs_value (v := .bool true) (by first | rfl | go_simp) (Below.refl _ _) rfl
    · intro _ ρ w9 hB hs
      have hBB : Below q1.heap.size q1 w9 := ⟨hB.os, hB.tape, hB.output, hB.size, hB.block⟩
      have h45 : ρ (.tmp 45) = .bool true := (hs (.tmp 45) (by simp [Op.operands, Call.operands])).1 45 rfl 29 _ rfl rfl
      exact ByOps.runs_value (by first | rfl | go_simp) (Below.refl _ _) h45
    · intro _ ρ w9 hB hs
      have hBB : Below q1.heap.size q1 w9 := ⟨hB.os, hB.tape, hB.output, hB.size, hB.block⟩
      have h0 : ρ (.tmp 0) = .slice s l.length c := (hs _ (by simp [Op.operands, Call.operands])).2 (fun t ht => by cases ht; kernel_rfl)
      exact ByOps.runs_value (by first | rfl | go_simp) (Below.refl _ _) h0
    · intro _ ρ w9 hB hs
      have hBB : Below q1.heap.size q1 w9 := ⟨hB.os, hB.tape, hB.output, hB.size, hB.block⟩
      have h6 : ρ (.tmp 6) = .pointer (some ⟨ba, 0, none⟩) := (hs _ (by simp [Op.operands, Call.operands])).2 (fun t ht => by cases ht; kernel_rfl)
      obtain ⟨⟨e0, e1, e2, e3, e4, e5, e6, e7, e8, e9⟩, _⟩ := box_10 ((hBB.block _ (lt_of_block Ha.out)).trans Ha.out)
      exact ByOps.runs_value (v := .agg #[.int .i8 a.f, .int .u16 a.g0, .int .u16 a.g1, .int .u16 a.g2, .int .u16 a.g3, .int .u16 a.g4, .int .u16 a.g5, .int .u16 a.g6, .int .u16 a.g7, .int .i64 a.p]) (by first | rfl | go_simp) (Below.refl _ _) rfl
    · intro _ ρ w9 hB hs
      have hBB : Below q1.heap.size q1 w9 := ⟨hB.os, hB.tape, hB.output, hB.size, hB.block⟩
      have h47 : ρ (.tmp 47) = .slice s l.length c := (hs (.tmp 47) (by simp [Op.operands, Call.operands])).1 47 rfl 31 _ rfl rfl
      have h48 : ρ (.tmp 48) = .agg #[.int .i8 a.f, .int .u16 a.g0, .int .u16 a.g1, .int .u16 a.g2, .int .u16 a.g3, .int .u16 a.g4, .int .u16 a.g5, .int .u16 a.g6, .int .u16 a.g7, .int .i64 a.p] := (hs (.tmp 48) (by simp [Op.operands, Call.operands])).1 48 rfl 32 _ rfl rfl
      have hfn : ρ (.func 20) = .func (.func 20) #[] #[] := (hs _ (by simp [Op.operands, Call.operands])).2 (fun t ht => by cases ht)
      refine ByOps.runs_enter (f := 20) (args := #[.slice s l.length c, .agg #[.int .i8 a.f, .int .u16 a.g0, .int .u16 a.g1, .int .u16 a.g2, .int .u16 a.g3, .int .u16 a.g4, .int .u16 a.g5, .int .u16 a.g6, .int .u16 a.g7, .int .i64 a.p]]) (by go_simp) ?_
      exact (HPl.out l a s c pz w9 hpz.out (by omega) (Hl.out.below hBB)).mono fun e w2 ⟨he, hb⟩ => ⟨_, he, hb, rfl⟩
    · intro _ ρ w9 hB hs
      have hBB : Below q1.heap.size q1 w9 := ⟨hB.os, hB.tape, hB.output, hB.size, hB.block⟩
      have h0 : ρ (.tmp 0) = .slice s l.length c := (hs _ (by simp [Op.operands, Call.operands])).2 (fun t ht => by cases ht; kernel_rfl)
      exact ByOps.runs_value (by first | rfl | go_simp) (Below.refl _ _) h0
    · intro _ ρ w9 hB hs
      have hBB : Below q1.heap.size q1 w9 := ⟨hB.os, hB.tape, hB.output, hB.size, hB.block⟩
      have h6 : ρ (.tmp 6) = .pointer (some ⟨ba, 0, none⟩) := (hs _ (by simp [Op.operands, Call.operands])).2 (fun t ht => by cases ht; kernel_rfl)
      obtain ⟨⟨e0, e1, e2, e3, e4, e5, e6, e7, e8, e9⟩, _⟩ := box_10 ((hBB.block _ (lt_of_block Ha.out)).trans Ha.out)
      exact ByOps.runs_value (v := .agg #[.int .i8 a.f, .int .u16 a.g0, .int .u16 a.g1, .int .u16 a.g2, .int .u16 a.g3, .int .u16 a.g4, .int .u16 a.g5, .int .u16 a.g6, .int .u16 a.g7, .int .i64 a.p]) (by first | rfl | go_simp) (Below.refl _ _) rfl
    · intro _ ρ w9 hB hs
      have hBB : Below q1.heap.size q1 w9 := ⟨hB.os, hB.tape, hB.output, hB.size, hB.block⟩
      have h50 : ρ (.tmp 50) = .slice s l.length c := (hs (.tmp 50) (by simp [Op.operands, Call.operands])).1 50 rfl 34 _ rfl rfl
      have h51 : ρ (.tmp 51) = .agg #[.int .i8 a.f, .int .u16 a.g0, .int .u16 a.g1, .int .u16 a.g2, .int .u16 a.g3, .int .u16 a.g4, .int .u16 a.g5, .int .u16 a.g6, .int .u16 a.g7, .int .i64 a.p] := (hs (.tmp 51) (by simp [Op.operands, Call.operands])).1 51 rfl 35 _ rfl rfl
      have hfn : ρ (.func 21) = .func (.func 21) #[] #[] := (hs _ (by simp [Op.operands, Call.operands])).2 (fun t ht => by cases ht)
      refine ByOps.runs_enter (f := 21) (args := #[.slice s l.length c, .agg #[.int .i8 a.f, .int .u16 a.g0, .int .u16 a.g1, .int .u16 a.g2, .int .u16 a.g3, .int .u16 a.g4, .int .u16 a.g5, .int .u16 a.g6, .int .u16 a.g7, .int .i64 a.p]]) (by go_simp) ?_
      exact (rplace_any l a s c pz w9 hpz.out (Hl.out.below hBB)).mono fun e w2 ⟨he, hb⟩ => ⟨_, he, hb, rfl⟩
    · intro _ ρ w9 hB hs
      have hBB : Below q1.heap.size q1 w9 := ⟨hB.os, hB.tape, hB.output, hB.size, hB.block⟩
      have h49 : ρ (.tmp 49) = .int .i64 pz := (hs (.tmp 49) (by simp [Op.operands, Call.operands])).1 49 rfl 33 _ rfl rfl
      have h52 : ρ (.tmp 52) = .int .i64 pz := (hs (.tmp 52) (by simp [Op.operands, Call.operands])).1 52 rfl 36 _ rfl rfl
      exact ByOps.runs_value (v := .bool true) (by first | rfl | go_simp) (Below.refl _ _) rfl
    · intro _ ρ w9 hB hs
      have hBB : Below q1.heap.size q1 w9 := ⟨hB.os, hB.tape, hB.output, hB.size, hB.block⟩
      have h46 : ρ (.tmp 46) = .bool true := (hs (.tmp 46) (by simp [Op.operands, Call.operands])).1 46 rfl 30 _ rfl rfl
      have h53 : ρ (.tmp 53) = .bool true := (hs (.tmp 53) (by simp [Op.operands, Call.operands])).1 53 rfl 37 _ rfl rfl
      exact ByOps.runs_value (v := .bool true) (by first | rfl | go_simp) (Below.refl _ _) rfl
    · intro _ ρ w9 hB hs
      have hBB : Below q1.heap.size q1 w9 := ⟨hB.os, hB.tape, hB.output, hB.size, hB.block⟩
      have h54 : ρ (.tmp 54) = .bool true := (hs (.tmp 54) (by simp [Op.operands, Call.operands])).1 54 rfl 38 _ rfl rfl
      exact ByOps.runs_value (by first | rfl | go_simp) (Below.refl _ _) h54
    · intro _ ρ w9 hB hs
      have hBB : Below q1.heap.size q1 w9 := ⟨hB.os, hB.tape, hB.output, hB.size, hB.block⟩
      have hfn : ρ (.func 10) = .func (.func 10) #[] #[] := (hs _ (by simp [Op.operands, Call.operands])).2 (fun t ht => by cases ht)
      refine ByOps.runs_enter (f := 10) (args := #[]) (by go_simp) ?_
      exact (HWk.out w9).mono fun e w2 ⟨he, hb⟩ => ⟨_, he, hb, rfl⟩
    · intro _ ρ w9 hB hs
      have hBB : Below q1.heap.size q1 w9 := ⟨hB.os, hB.tape, hB.output, hB.size, hB.block⟩
      have h55 : ρ (.tmp 55) = .bool true := (hs (.tmp 55) (by simp [Op.operands, Call.operands])).1 55 rfl 39 _ rfl rfl
      have h56 : ρ (.tmp 56) = .bool true := (hs (.tmp 56) (by simp [Op.operands, Call.operands])).1 56 rfl 40 _ rfl rfl
      exact ByOps.runs_value (v := .bool true) (by first | rfl | go_simp) (Below.refl _ _) rfl
    · intro _ ρ w9 hB hs
      have hBB : Below q1.heap.size q1 w9 := ⟨hB.os, hB.tape, hB.output, hB.size, hB.block⟩
      have h57 : ρ (.tmp 57) = .bool true := (hs (.tmp 57) (by simp [Op.operands, Call.operands])).1 57 rfl 41 _ rfl rfl
      exact ByOps.runs_value (by first | rfl | go_simp) (Below.refl _ _) h57
  · refine ⟨?_, ?_, ?_, ?_, ?_, ?_, ?_, ?_, ?_, ?_, ?_, ?_, ?_, ?_, ?_, ?_, ?_, ?_, ?_, ?_, ?_, ?_, ?_, ?_, ?_, ?_, ?_, ?_, ?_, ?_, ?_, ?_, ?_, ?_, ?_, ?_, ?_, ?_, ?_, ?_, ?_, ?_, ?_, trivial⟩
    all_goals first | (intro hs0; cases hs0; done) | (intro _; exact ⟨by simp, fun _ => rfl⟩)
  · refine ⟨?_, ?_, ?_, ?_, ?_, ?_, ?_, ?_, ?_, ?_, ?_, ?_, ?_, ?_, ?_, ?_, ?_, ?_, ?_, ?_, ?_, ?_, ?_, ?_, ?_, ?_, ?_, ?_, ?_, ?_, ?_, ?_, ?_, ?_, ?_, ?_, ?_, ?_, ?_, ?_, ?_, ?_, ?_, trivial⟩
    all_goals first | (intro g b h; cases h; done) | (intro g b h; cases h; intro v w h; exact ⟨fun h0 => (by first | exact h | cases h0), fun h0 => (by first | cases h0; done | exact .inl h | exact .inr h)⟩)
  · intro a9 w9 hd9 hs9 ho9 hn9 hB9
    obtain ⟨v0, e0, p0⟩ := hn9 0 _ 16 rfl rfl
    obtain ⟨v1, e1, p1⟩ := hn9 1 _ 17 rfl rfl
    obtain ⟨v2, e2, p2⟩ := hn9 2 _ 18 rfl rfl
    obtain ⟨v3, e3, p3⟩ := hn9 3 _ 19 rfl rfl
    obtain ⟨v4, e4, p4⟩ := hn9 4 _ 20 rfl rfl
    obtain ⟨v5, e5, p5⟩ := hn9 5 _ 21 rfl rfl
    obtain ⟨v6, e6, p6⟩ := hn9 6 _ 22 rfl rfl
    obtain ⟨v7, e7, p7⟩ := hn9 7 _ 23 rfl rfl
    obtain ⟨v8, e8, p8⟩ := hn9 8 _ 24 rfl rfl
    obtain ⟨v9, e9, p9⟩ := hn9 9 _ 25 rfl rfl
    obtain ⟨v10, e10, p10⟩ := hn9 10 _ 26 rfl rfl
    obtain ⟨v11, e11, p11⟩ := hn9 11 _ 27 rfl rfl
    obtain ⟨v12, e12, p12⟩ := hn9 12 _ 28 rfl rfl
    obtain ⟨v13, e13, p13⟩ := hn9 13 _ 29 rfl rfl
    obtain ⟨v14, e14, p14⟩ := hn9 14 _ 30 rfl rfl
    obtain ⟨v15, e15, p15⟩ := hn9 15 _ 31 rfl rfl
    obtain ⟨v16, e16, p16⟩ := hn9 16 _ 32 rfl rfl
    obtain ⟨v17, e17, p17⟩ := hn9 17 _ 33 rfl rfl
    obtain ⟨v18, e18, p18⟩ := hn9 18 _ 34 rfl rfl
    obtain ⟨v19, e19, p19⟩ := hn9 19 _ 35 rfl rfl
    obtain ⟨v20, e20, p20⟩ := hn9 20 _ 36 rfl rfl
    obtain ⟨v21, e21, p21⟩ := hn9 21 _ 37 rfl rfl
    obtain ⟨v22, e22, p22⟩ := hn9 22 _ 38 rfl rfl
    obtain ⟨v23, e23, p23⟩ := hn9 23 _ 39 rfl rfl
    obtain ⟨v24, e24, p24⟩ := hn9 24 _ 40 rfl rfl
    obtain ⟨v25, e25, p25⟩ := hn9 25 _ 41 rfl rfl
    obtain ⟨v26, e26, p26⟩ := hn9 26 _ 42 rfl rfl
    obtain ⟨v27, e27, p27⟩ := hn9 27 _ 43 rfl rfl
    obtain ⟨v28, e28, p28⟩ := hn9 28 _ 44 rfl rfl
    obtain ⟨v29, e29, p29⟩ := hn9 29 _ 45 rfl rfl
    obtain ⟨v30, e30, p30⟩ := hn9 30 _ 46 rfl rfl
    obtain ⟨v31, e31, p31⟩ := hn9 31 _ 47 rfl rfl
    obtain ⟨v32, e32, p32⟩ := hn9 32 _ 48 rfl rfl
    obtain ⟨v33, e33, p33⟩ := hn9 33 _ 49 rfl rfl
    obtain ⟨v34, e34, p34⟩ := hn9 34 _ 50 rfl rfl
    obtain ⟨v35, e35, p35⟩ := hn9 35 _ 51 rfl rfl
    obtain ⟨v36, e36, p36⟩ := hn9 36 _ 52 rfl rfl
    obtain ⟨v37, e37, p37⟩ := hn9 37 _ 53 rfl rfl
    obtain ⟨v38, e38, p38⟩ := hn9 38 _ 54 rfl rfl
    obtain ⟨v39, e39, p39⟩ := hn9 39 _ 55 rfl rfl
    obtain ⟨v40, e40, p40⟩ := hn9 40 _ 56 rfl rfl
    obtain ⟨v41, e41, p41⟩ := hn9 41 _ 57 rfl rfl
    obtain ⟨v42, e42, p42⟩ := hn9 42 _ 8 rfl rfl
    obtain rfl : v0 = .slice s l.length c := p0
    obtain ⟨qa1, qc1, rfl, hQ1⟩ := p1
    obtain rfl : v2 = .slice s l.length c := p2
    obtain ⟨qa3, qc3, rfl, hQ3⟩ := p3
    obtain rfl : v4 = .bool true := p4
    obtain rfl : v5 = .bool true := p5
    obtain rfl : v6 = .slice s l.length c := p6
    obtain ⟨qa7, qc7, rfl, hQ7⟩ := p7
    obtain rfl : v8 = .slice s l.length c := p8
    obtain ⟨qa9, qc9, rfl, hQ9⟩ := p9
    obtain rfl : v10 = .bool true := p10
    obtain rfl : v11 = .bool true := p11
    obtain rfl : v12 = .bool true := p12
    obtain rfl : v13 = .slice s l.length c := p13
    obtain rfl : v14 = .slice s1 m.length c1 := p14
    obtain ⟨qa15, qc15, rfl, hQ15⟩ := p15
    obtain rfl : v16 = .slice s l.length c := p16
    obtain rfl : v17 = .slice s1 m.length c1 := p17
    obtain ⟨qa18, qc18, rfl, hQ18⟩ := p18
    obtain rfl : v19 = .bool true := p19
    obtain rfl : v20 = .bool true := p20
    obtain rfl : v21 = .bool true := p21
    obtain rfl : v22 = .int .i64 n := p22
    obtain rfl : v23 = .slice s l.length c := p23
    obtain ⟨qa24, qc24, rfl, hQ24⟩ := p24
    obtain rfl : v25 = .int .i64 n := p25
    obtain rfl : v26 = .slice s l.length c := p26
    obtain ⟨qa27, qc27, rfl, hQ27⟩ := p27
    obtain rfl : v28 = .bool true := p28
    obtain rfl : v29 = .bool true := p29
    obtain rfl : v30 = .bool true := p30
    obtain rfl : v31 = .slice s l.length c := p31
    obtain rfl : v32 = .agg #[.int .i8 a.f, .int .u16 a.g0, .int .u16 a.g1, .int .u16 a.g2, .int .u16 a.g3, .int .u16 a.g4, .int .u16 a.g5, .int .u16 a.g6, .int .u16 a.g7, .int .i64 a.p] := p32
    obtain rfl : v33 = .int .i64 pz := p33
    obtain rfl : v34 = .slice s l.length c := p34
    obtain rfl : v35 = .agg #[.int .i8 a.f, .int .u16 a.g0, .int .u16 a.g1, .int .u16 a.g2, .int .u16 a.g3, .int .u16 a.g4, .int .u16 a.g5, .int .u16 a.g6, .int .u16 a.g7, .int .i64 a.p] := p35
    obtain rfl : v36 = .int .i64 pz := p36
    obtain rfl : v37 = .bool true := p37
    obtain rfl : v38 = .bool true := p38
    obtain rfl : v39 = .bool true := p39
    obtain rfl : v40 = .bool true := p40
    obtain rfl : v41 = .bool true := p41
    obtain rfl : v42 = .bool true := p42
    have ha := ByOps.act_eq [(16, .slice s l.length c), (17, .slice qa1 (L1 : List Ad).length qc1), (18, .slice s l.length c), (19, .slice qa3 (L1 : List Ad).length qc3), (20, .bool true), (21, .bool true), (22, .slice s l.length c), (23, .slice qa7 (L2 : List Ad).length qc7), (24, .slice s l.length c), (25, .slice qa9 (L2 : List Ad).length qc9), (26, .bool true), (27, .bool true), (28, .bool true), (29, .slice s l.length c), (30, .slice s1 m.length c1), (31, .slice qa15 (L3 : List Ad).length qc15), (32, .slice s l.length c), (33, .slice s1 m.length c1), (34, .slice qa18 (L3 : List Ad).length qc18), (35, .bool true), (36, .bool true), (37, .bool true), (38, .int .i64 n), (39, .slice s l.length c), (40, .slice qa24 (L4 : List Ad).length qc24), (41, .int .i64 n), (42, .slice s l.length c), (43, .slice qa27 (L4 : List Ad).length qc27), (44, .bool true), (45, .bool true), (46, .bool true), (47, .slice s l.length c), (48, .agg #[.int .i8 a.f, .int .u16 a.g0, .int .u16 a.g1, .int .u16 a.g2, .int .u16 a.g3, .int .u16 a.g4, .int .u16 a.g5, .int .u16 a.g6, .int .u16 a.g7, .int .i64 a.p]), (49, .int .i64 pz), (50, .slice s l.length c), (51, .agg #[.int .i8 a.f, .int .u16 a.g0, .int .u16 a.g1, .int .u16 a.g2, .int .u16 a.g3, .int .u16 a.g4, .int .u16 a.g5, .int .u16 a.g6, .int .u16 a.g7, .int .i64 a.p]), (52, .int .i64 pz), (53, .bool true), (54, .bool true), (55, .bool true), (56, .bool true), (57, .bool true), (8, .bool true)] a9 _ hd9 hs9 (fun t ht => ho9 t (ByOps.outer_of (ts := [16, 17, 18, 19, 20, 21, 22, 23, 24, 25, 26, 27, 28, 29, 30, 31, 32, 33, 34, 35, 36, 37, 38, 39, 40, 41, 42, 43, 44, 45, 46, 47, 48, 49, 50, 51, 52, 53, 54, 55, 56, 57, 8]) rfl ht)) (by intro p hp; simp only [List.mem_cons, List.not_mem_nil, or_false] at hp; rcases hp with rfl | rfl | rfl | rfl | rfl | rfl | rfl | rfl | rfl | rfl | rfl | rfl | rfl | rfl | rfl | rfl | rfl | rfl | rfl | rfl | rfl | rfl | rfl | rfl | rfl | rfl | rfl | rfl | rfl | rfl | rfl | rfl | rfl | rfl | rfl | rfl | rfl | rfl | rfl | rfl | rfl | rfl | rfl <;> assumption)
    rw [ha]
    clear ha hn9 ho9 hs9 hd9 e0 e1 e2 e3 e4 e5 e6 e7 e8 e9 e10 e11 e12 e13 e14 e15 e16 e17 e18 e19 e20 e21 e22 e23 e24 e25 e26 e27 e28 e29 e30 e31 e32 e33 e34 e35 e36 e37 e38 e39 e40 e41 e42
    simp only [List.foldl, Act.put, List.setIfInBounds_toArray, List.set_cons_zero, List.set_cons_succ]
    have hb9 : Below q1.heap.size q1 w9 := ⟨hB9.os, hB9.tape, hB9.output, hB9.size, hB9.block⟩
    clear hB9
    have hbf := HB.out.trans (hb9.mono HB.out.size)
    go_wp2_with fail
    go_ret
    exact ⟨rfl, hbf⟩
end Go.Proofs.Ytcihcdifjnobjaa
