/- What the document says of two addresses. -/
import Derived.Test.YtipbkhbdnjhofaaLawB
set_option linter.unusedSimpArgs false
set_option linter.unusedVariables false
namespace Go.Proofs.Ytipbkhbdnjhofaa
open R3 Go.RowKit Go.Proofs.Ytipbkhbdnjhofaa.Kind

set_option maxHeartbeats 40000000 in
set_option maxRecDepth 1000000 in
theorem wakes_walk (HNo : NoteSpec) (HHa : HasSpec) (HWo : WorstSpec) : WakesSpec := by
  intro w
  have HNo := Lib.hid (fun l n ds s v c d L w h h1 h2 h3 h4 => HNo l n ds s v c d L w h h1 h2 h3 h4)
  have HHa := Lib.hid (fun l g n ds s v c d r w h h1 h2 h3 h4 => HHa l g n ds s v c d r w h h1 h2 h3 h4)
  have HWo := Lib.hid (fun l g n s c x r w h h1 h2 h3 => HWo l g n s c x r w h h1 h2 h3)
  have HB := Lib.hid (Below.refl w.heap.size w)
  obtain ⟨a, ha⟩ : ∃ a : Ad, a = ⟨4, 0, 0, 0, 0, 0, 0, 0, 0, 1⟩ := ⟨_, rfl⟩
  obtain ⟨b, hb_⟩ : ∃ b : Ad, b = ⟨4, 0, 0, 0, 0, 0, 0, 0, 0, 2⟩ := ⟨_, rfl⟩
  obtain ⟨L1, hL1⟩ : ∃ L : List Sc, L = [⟨a, 3⟩] := ⟨_, rfl⟩
  obtain ⟨L2, hL2⟩ : ∃ L : List Sc, L = [⟨a, 3⟩, ⟨b, 4⟩] := ⟨_, rfl⟩
  obtain ⟨L3, hL3⟩ : ∃ L : List Sc, L = [⟨b, 4⟩, ⟨a, 5⟩] := ⟨_, rfl⟩
  have h1 : NoteIs L1 [] 3 [a] := by subst hL1 hL2 hL3 ha hb_; first | decide | exact ⟨by decide, by unfold OkS okA; decide, by unfold OkL okA; decide⟩
  have h2 : NoteIs L2 L1 4 [b] := by subst hL1 hL2 hL3 ha hb_; first | decide | exact ⟨by decide, by unfold OkS okA; decide, by unfold OkL okA; decide⟩
  have h3 : NoteIs L3 L2 5 [a] := by subst hL1 hL2 hL3 ha hb_; first | decide | exact ⟨by decide, by unfold OkS okA; decide, by unfold OkL okA; decide⟩
  have h4 : a = worstA L3 9 5 := by subst hL1 hL2 hL3 ha hb_; first | decide | exact ⟨by decide, by unfold OkS okA; decide, by unfold OkL okA; decide⟩
  have h5 : true = worstB L3 9 5 := by subst hL1 hL2 hL3 ha hb_; first | decide | exact ⟨by decide, by unfold OkS okA; decide, by unfold OkL okA; decide⟩
  have h6 : HasIs false L3 2 7 [a] := by subst hL1 hL2 hL3 ha hb_; first | decide | exact ⟨by decide, by unfold OkS okA; decide, by unfold OkL okA; decide⟩
  have h7 : HasIs true L3 2 6 [a] := by subst hL1 hL2 hL3 ha hb_; first | decide | exact ⟨by decide, by unfold OkS okA; decide, by unfold OkL okA; decide⟩
  have h8 : L3.length = 2 := by rw [hL3]; rfl
  have h9 : L1.length = 1 ∧ L2.length = 2 := by rw [hL1, hL2]; exact ⟨rfl, rfl⟩
  have e0 : L3[0]? = some ⟨b, 4⟩ := by rw [hL3]; rfl
  have e1 : L3[1]? = some ⟨a, 5⟩ := by rw [hL3]; rfl
  have hca : (#[.int .i8 4, .int .u16 0, .int .u16 0, .int .u16 0, .int .u16 0, .int .u16 0, .int .u16 0, .int .u16 0, .int .u16 0, .int .i64 1] : Array Value) = #[.int .i8 a.f, .int .u16 a.g0, .int .u16 a.g1, .int .u16 a.g2, .int .u16 a.g3, .int .u16 a.g4, .int .u16 a.g5, .int .u16 a.g6, .int .u16 a.g7, .int .i64 a.p] := by rw [ha]
  have hcb : (#[.int .i8 4, .int .u16 0, .int .u16 0, .int .u16 0, .int .u16 0, .int .u16 0, .int .u16 0, .int .u16 0, .int .u16 0, .int .i64 2] : Array Value) = #[.int .i8 b.f, .int .u16 b.g0, .int .u16 b.g1, .int .u16 b.g2, .int .u16 b.g3, .int .u16 b.g4, .int .u16 b.g5, .int .u16 b.g6, .int .u16 b.g7, .int .i64 b.p] := by rw [hb_]
  replace h1 := Lib.hid h1
  replace h2 := Lib.hid h2
  replace h3 := Lib.hid h3
  replace h4 := Lib.hid h4
  replace h5 := Lib.hid h5
  replace h6 := Lib.hid h6
  replace h7 := Lib.hid h7
  replace h8 := Lib.hid h8
  replace h9 := Lib.hid h9
  replace e0 := Lib.hid e0
  replace e1 := Lib.hid e1
  replace hca := Lib.hid hca
  replace hcb := Lib.hid hcb
  clear hL1 hL2 hL3 ha hb_
  go_enter Try.func8, Try.ntmps8
  go_upto_region 2 with fail
  obtain ⟨q0, hq0⟩ : ∃ X, X = (w.alloc (.cells #[.int .i8 4, .int .u16 0, .int .u16 0, .int .u16 0, .int .u16 0, .int .u16 0, .int .u16 0, .int .u16 0, .int .u16 0, .int .i64 1] 31)).alloc (.cells #[.int .i8 4, .int .u16 0, .int .u16 0, .int .u16 0, .int .u16 0, .int .u16 0, .int .u16 0, .int .u16 0, .int .u16 0, .int .i64 2] 31) := ⟨_, rfl⟩
  have hb := below2 w (.cells #[.int .i8 4, .int .u16 0, .int .u16 0, .int .u16 0, .int .u16 0, .int .u16 0, .int .u16 0, .int .u16 0, .int .u16 0, .int .i64 1] 31) (.cells #[.int .i8 4, .int .u16 0, .int .u16 0, .int .u16 0, .int .u16 0, .int .u16 0, .int .u16 0, .int .u16 0, .int .u16 0, .int .i64 2] 31)
  have hL := laid2 w (.cells #[.int .i8 4, .int .u16 0, .int .u16 0, .int .u16 0, .int .u16 0, .int .u16 0, .int .u16 0, .int .u16 0, .int .u16 0, .int .i64 1] 31) (.cells #[.int .i8 4, .int .u16 0, .int .u16 0, .int .u16 0, .int .u16 0, .int .u16 0, .int .u16 0, .int .u16 0, .int .u16 0, .int .i64 2] 31)
  rw [← hq0] at hb hL ⊢
  clear hq0
  obtain ⟨bb, hbb⟩ : ∃ n, n = w.heap.size + 1 := ⟨_, rfl⟩
  rw [← hbb] at hL ⊢
  have hHa := hL.1
  have hHb := hL.2
  rw [hca.out] at hHa
  rw [hcb.out] at hHb
  clear hL hbb
  replace HB := Lib.hid (HB.out.trans (hb.mono HB.out.size))
  clear hb
  have Ha := Lib.hid hHa
  have Hb := Lib.hid hHb
  clear hHa hHb
  refine ByOps.region_by_sk (by kernel_rfl) (ByOps.facts [.val (.agg #[.int .i8 a.f, .int .u16 a.g0, .int .u16 a.g1, .int .u16 a.g2, .int .u16 a.g3, .int .u16 a.g4, .int .u16 a.g5, .int .u16 a.g6, .int .u16 a.g7, .int .i64 a.p]), rowA ([a]), rowS (L1), .val (.agg #[.int .i8 b.f, .int .u16 b.g0, .int .u16 b.g1, .int .u16 b.g2, .int .u16 b.g3, .int .u16 b.g4, .int .u16 b.g5, .int .u16 b.g6, .int .u16 b.g7, .int .i64 b.p]), rowA ([b]), rowS (L2), .val (.agg #[.int .i8 a.f, .int .u16 a.g0, .int .u16 a.g1, .int .u16 a.g2, .int .u16 a.g3, .int .u16 a.g4, .int .u16 a.g5, .int .u16 a.g6, .int .u16 a.g7, .int .i64 a.p]), rowA ([a]), rowS (L3), rowS (L3)]) (ByOps.facts_up _) (by kernel_rfl) (fun _ => false) (ByOps.all_ops ?_) (ByOps.all_ops ?_) (ByOps.all_ops ?_) ?_
  · refine ⟨?_, ?_, ?_, ?_, ?_, ?_, ?_, ?_, ?_, ?_, trivial⟩
    · intro _ ρ w9 hB hs
      have hBB : Below q0.heap.size q0 w9 := ⟨hB.os, hB.tape, hB.output, hB.size, hB.block⟩
      have h1 : ρ (.tmp 1) = .pointer (some ⟨w.heap.size, 0, none⟩) := (hs _ (by simp [Op.operands, Call.operands])).2 (fun t ht => by cases ht; kernel_rfl)
      obtain ⟨⟨e0, e1, e2, e3, e4, e5, e6, e7, e8, e9⟩, _⟩ := box_10 ((hBB.block _ (lt_of_block Ha.out)).trans Ha.out)
      exact ByOps.runs_value (v := .agg #[.int .i8 a.f, .int .u16 a.g0, .int .u16 a.g1, .int .u16 a.g2, .int .u16 a.g3, .int .u16 a.g4, .int .u16 a.g5, .int .u16 a.g6, .int .u16 a.g7, .int .i64 a.p]) (by first | rfl | go_simp) (Below.refl _ _) rfl
    · intro _ ρ w9 hB hs
      have hBB : Below q0.heap.size q0 w9 := ⟨hB.os, hB.tape, hB.output, hB.size, hB.block⟩
      have h8 : ρ (.tmp 8) = .agg #[.int .i8 a.f, .int .u16 a.g0, .int .u16 a.g1, .int .u16 a.g2, .int .u16 a.g3, .int .u16 a.g4, .int .u16 a.g5, .int .u16 a.g6, .int .u16 a.g7, .int .i64 a.p] := (hs (.tmp 8) (by simp [Op.operands, Call.operands])).1 8 rfl 0 _ rfl rfl
      exact ByOps.runs_value (v := .slice (some ⟨w9.heap.size, 0, none⟩) 1 1) (w' := w9.alloc (.cells #[.int .i8 a.f, .int .u16 a.g0, .int .u16 a.g1, .int .u16 a.g2, .int .u16 a.g3, .int .u16 a.g4, .int .u16 a.g5, .int .u16 a.g6, .int .u16 a.g7, .int .i64 a.p] 31)) (by go_simp) (below1 _ _) ⟨some ⟨w9.heap.size, 0, none⟩, 1, rfl, rowC_at (K := AK) w9 31 [a] #[.int .i8 a.f, .int .u16 a.g0, .int .u16 a.g1, .int .u16 a.g2, .int .u16 a.g3, .int .u16 a.g4, .int .u16 a.g5, .int .u16 a.g6, .int .u16 a.g7, .int .i64 a.p] w9.heap.size 1 rfl rfl rfl (by simp)⟩
    · intro _ ρ w9 hB hs
      have hBB : Below q0.heap.size q0 w9 := ⟨hB.os, hB.tape, hB.output, hB.size, hB.block⟩
      have hk1 : ρ (.const (.slice none 0 0)) = .slice none 0 0 := (hs _ (by simp [Op.operands, Call.operands])).2 (fun t ht => by cases ht)
      have hk2 : ρ (.const (.int .i64 3)) = .int .i64 3 := (hs _ (by simp [Op.operands, Call.operands])).2 (fun t ht => by cases ht)
      have h9 : ∃ a1 c1, ρ (.tmp 9) = .slice a1 ([a] : List Ad).length c1 ∧ AK.RowC w9 a1 c1 ([a]) := (hs (.tmp 9) (by simp [Op.operands, Call.operands])).1 9 rfl 1 _ rfl rfl
      obtain ⟨ra9, rc9, h9, hR9⟩ := h9
      have hfn : ρ (.func 9) = .func (.func 9) #[] #[] := (hs _ (by simp [Op.operands, Call.operands])).2 (fun t ht => by cases ht)
      refine ByOps.runs_enter (f := 9) (args := #[.slice none 0 0, .int .i64 3, .slice ra9 ([a] : List Ad).length rc9]) (by go_simp) ?_
      exact (HNo.out [] 3 [a] none ra9 0 rc9 L1 w9 h1.out (by simp) (by simp) (row_none _) hR9).mono fun e w2 ⟨a1, c1, he, hR, hb⟩ => ⟨_, he, hb, a1, c1, rfl, hR⟩
    · intro _ ρ w9 hB hs
      have hBB : Below q0.heap.size q0 w9 := ⟨hB.os, hB.tape, hB.output, hB.size, hB.block⟩
      have h2 : ρ (.tmp 2) = .pointer (some ⟨bb, 0, none⟩) := (hs _ (by simp [Op.operands, Call.operands])).2 (fun t ht => by cases ht; kernel_rfl)
      obtain ⟨⟨e0, e1, e2, e3, e4, e5, e6, e7, e8, e9⟩, _⟩ := box_10 ((hBB.block _ (lt_of_block Hb.out)).trans Hb.out)
      exact ByOps.runs_value (v := .agg #[.int .i8 b.f, .int .u16 b.g0, .int .u16 b.g1, .int .u16 b.g2, .int .u16 b.g3, .int .u16 b.g4, .int .u16 b.g5, .int .u16 b.g6, .int .u16 b.g7, .int .i64 b.p]) (by first | rfl | go_simp) (Below.refl _ _) rfl
    · intro _ ρ w9 hB hs
      have hBB : Below q0.heap.size q0 w9 := ⟨hB.os, hB.tape, hB.output, hB.size, hB.block⟩
      have h11 : ρ (.tmp 11) = .agg #[.int .i8 b.f, .int .u16 b.g0, .int .u16 b.g1, .int .u16 b.g2, .int .u16 b.g3, .int .u16 b.g4, .int .u16 b.g5, .int .u16 b.g6, .int .u16 b.g7, .int .i64 b.p] := (hs (.tmp 11) (by simp [Op.operands, Call.operands])).1 11 rfl 3 _ rfl rfl
      exact ByOps.runs_value (v := .slice (some ⟨w9.heap.size, 0, none⟩) 1 1) (w' := w9.alloc (.cells #[.int .i8 b.f, .int .u16 b.g0, .int .u16 b.g1, .int .u16 b.g2, .int .u16 b.g3, .int .u16 b.g4, .int .u16 b.g5, .int .u16 b.g6, .int .u16 b.g7, .int .i64 b.p] 31)) (by go_simp) (below1 _ _) ⟨some ⟨w9.heap.size, 0, none⟩, 1, rfl, rowC_at (K := AK) w9 31 [b] #[.int .i8 b.f, .int .u16 b.g0, .int .u16 b.g1, .int .u16 b.g2, .int .u16 b.g3, .int .u16 b.g4, .int .u16 b.g5, .int .u16 b.g6, .int .u16 b.g7, .int .i64 b.p] w9.heap.size 1 rfl rfl rfl (by simp)⟩
    · intro _ ρ w9 hB hs
      have hBB : Below q0.heap.size q0 w9 := ⟨hB.os, hB.tape, hB.output, hB.size, hB.block⟩
      have h10 : ∃ a1 c1, ρ (.tmp 10) = .slice a1 (L1 : List Sc).length c1 ∧ SK.RowC w9 a1 c1 (L1) := (hs (.tmp 10) (by simp [Op.operands, Call.operands])).1 10 rfl 2 _ rfl rfl
      obtain ⟨ra10, rc10, h10, hR10⟩ := h10
      have hk1 : ρ (.const (.int .i64 4)) = .int .i64 4 := (hs _ (by simp [Op.operands, Call.operands])).2 (fun t ht => by cases ht)
      have h12 : ∃ a1 c1, ρ (.tmp 12) = .slice a1 ([b] : List Ad).length c1 ∧ AK.RowC w9 a1 c1 ([b]) := (hs (.tmp 12) (by simp [Op.operands, Call.operands])).1 12 rfl 4 _ rfl rfl
      obtain ⟨ra12, rc12, h12, hR12⟩ := h12
      have hfn : ρ (.func 9) = .func (.func 9) #[] #[] := (hs _ (by simp [Op.operands, Call.operands])).2 (fun t ht => by cases ht)
      refine ByOps.runs_enter (f := 9) (args := #[.slice ra10 (L1 : List Sc).length rc10, .int .i64 4, .slice ra12 ([b] : List Ad).length rc12]) (by go_simp) ?_
      exact (HNo.out L1 4 [b] ra10 ra12 rc10 rc12 L2 w9 h2.out (by first | (rw [h9.out.1]; omega) | (rw [h9.out.2]; omega)) (by simp) hR10 hR12).mono fun e w2 ⟨a1, c1, he, hR, hb⟩ => ⟨_, he, hb, a1, c1, rfl, hR⟩
    · intro _ ρ w9 hB hs
      have hBB : Below q0.heap.size q0 w9 := ⟨hB.os, hB.tape, hB.output, hB.size, hB.block⟩
      have h1 : ρ (.tmp 1) = .pointer (some ⟨w.heap.size, 0, none⟩) := (hs _ (by simp [Op.operands, Call.operands])).2 (fun t ht => by cases ht; kernel_rfl)
      obtain ⟨⟨e0, e1, e2, e3, e4, e5, e6, e7, e8, e9⟩, _⟩ := box_10 ((hBB.block _ (lt_of_block Ha.out)).trans Ha.out)
      exact ByOps.runs_value (v := .agg #[.int .i8 a.f, .int .u16 a.g0, .int .u16 a.g1, .int .u16 a.g2, .int .u16 a.g3, .int .u16 a.g4, .int .u16 a.g5, .int .u16 a.g6, .int .u16 a.g7, .int .i64 a.p]) (by first | rfl | go_simp) (Below.refl _ _) rfl
    · intro _ ρ w9 hB hs
      have hBB : Below q0.heap.size q0 w9 := ⟨hB.os, hB.tape, hB.output, hB.size, hB.block⟩
      have h14 : ρ (.tmp 14) = .agg #[.int .i8 a.f, .int .u16 a.g0, .int .u16 a.g1, .int .u16 a.g2, .int .u16 a.g3, .int .u16 a.g4, .int .u16 a.g5, .int .u16 a.g6, .int .u16 a.g7, .int .i64 a.p] := (hs (.tmp 14) (by simp [Op.operands, Call.operands])).1 14 rfl 6 _ rfl rfl
      exact ByOps.runs_value (v := .slice (some ⟨w9.heap.size, 0, none⟩) 1 1) (w' := w9.alloc (.cells #[.int .i8 a.f, .int .u16 a.g0, .int .u16 a.g1, .int .u16 a.g2, .int .u16 a.g3, .int .u16 a.g4, .int .u16 a.g5, .int .u16 a.g6, .int .u16 a.g7, .int .i64 a.p] 31)) (by go_simp) (below1 _ _) ⟨some ⟨w9.heap.size, 0, none⟩, 1, rfl, rowC_at (K := AK) w9 31 [a] #[.int .i8 a.f, .int .u16 a.g0, .int .u16 a.g1, .int .u16 a.g2, .int .u16 a.g3, .int .u16 a.g4, .int .u16 a.g5, .int .u16 a.g6, .int .u16 a.g7, .int .i64 a.p] w9.heap.size 1 rfl rfl rfl (by simp)⟩
    · intro _ ρ w9 hB hs
      have hBB : Below q0.heap.size q0 w9 := ⟨hB.os, hB.tape, hB.output, hB.size, hB.block⟩
      have h13 : ∃ a1 c1, ρ (.tmp 13) = .slice a1 (L2 : List Sc).length c1 ∧ SK.RowC w9 a1 c1 (L2) := (hs (.tmp 13) (by simp [Op.operands, Call.operands])).1 13 rfl 5 _ rfl rfl
      obtain ⟨ra13, rc13, h13, hR13⟩ := h13
      have hk1 : ρ (.const (.int .i64 5)) = .int .i64 5 := (hs _ (by simp [Op.operands, Call.operands])).2 (fun t ht => by cases ht)
      have h15 : ∃ a1 c1, ρ (.tmp 15) = .slice a1 ([a] : List Ad).length c1 ∧ AK.RowC w9 a1 c1 ([a]) := (hs (.tmp 15) (by simp [Op.operands, Call.operands])).1 15 rfl 7 _ rfl rfl
      obtain ⟨ra15, rc15, h15, hR15⟩ := h15
      have hfn : ρ (.func 9) = .func (.func 9) #[] #[] := (hs _ (by simp [Op.operands, Call.operands])).2 (fun t ht => by cases ht)
      refine ByOps.runs_enter (f := 9) (args := #[.slice ra13 (L2 : List Sc).length rc13, .int .i64 5, .slice ra15 ([a] : List Ad).length rc15]) (by go_simp) ?_
      exact (HNo.out L2 5 [a] ra13 ra15 rc13 rc15 L3 w9 h3.out (by first | (rw [h9.out.1]; omega) | (rw [h9.out.2]; omega)) (by simp) hR13 hR15).mono fun e w2 ⟨a1, c1, he, hR, hb⟩ => ⟨_, he, hb, a1, c1, rfl, hR⟩
    · intro _ ρ w9 hB hs
      have hBB : Below q0.heap.size q0 w9 := ⟨hB.os, hB.tape, hB.output, hB.size, hB.block⟩
      have h16 : ∃ a1 c1, ρ (.tmp 16) = .slice a1 (L3 : List Sc).length c1 ∧ SK.RowC w9 a1 c1 (L3) := (hs (.tmp 16) (by simp [Op.operands, Call.operands])).1 16 rfl 8 _ rfl rfl
      obtain ⟨ra16, rc16, h16, hR16⟩ := h16
      exact ByOps.runs_value (v := .slice ra16 (L3 : List Sc).length rc16) (by first | rfl | go_simp) (Below.refl _ _) ⟨_, _, rfl, hR16⟩
  · refine ⟨?_, ?_, ?_, ?_, ?_, ?_, ?_, ?_, ?_, ?_, trivial⟩
    all_goals first | (intro hs0; cases hs0; done) | (intro _; exact ⟨by simp, fun _ => rfl⟩)
  · refine ⟨?_, ?_, ?_, ?_, ?_, ?_, ?_, ?_, ?_, ?_, trivial⟩
    all_goals first | (intro g b h; cases h; done) | (intro g b h; cases h; intro v w h; exact ⟨fun h0 => (by first | exact h | cases h0), fun h0 => (by first | cases h0; done | exact .inl h | exact .inr h)⟩)
  · intro a9 w7 hd9 hs9 ho9 hn9 hB9
    obtain ⟨v0, e0, p0⟩ := hn9 0 _ 8 rfl rfl
    obtain ⟨v1, e1, p1⟩ := hn9 1 _ 9 rfl rfl
    obtain ⟨v2, e2, p2⟩ := hn9 2 _ 10 rfl rfl
    obtain ⟨v3, e3, p3⟩ := hn9 3 _ 11 rfl rfl
    obtain ⟨v4, e4, p4⟩ := hn9 4 _ 12 rfl rfl
    obtain ⟨v5, e5, p5⟩ := hn9 5 _ 13 rfl rfl
    obtain ⟨v6, e6, p6⟩ := hn9 6 _ 14 rfl rfl
    obtain ⟨v7, e7, p7⟩ := hn9 7 _ 15 rfl rfl
    obtain ⟨v8, e8, p8⟩ := hn9 8 _ 16 rfl rfl
    obtain ⟨v9, e9, p9⟩ := hn9 9 _ 3 rfl rfl
    obtain rfl : v0 = .agg #[.int .i8 a.f, .int .u16 a.g0, .int .u16 a.g1, .int .u16 a.g2, .int .u16 a.g3, .int .u16 a.g4, .int .u16 a.g5, .int .u16 a.g6, .int .u16 a.g7, .int .i64 a.p] := p0
    obtain ⟨qa1, qc1, rfl, hQ1⟩ := p1
    obtain ⟨qa2, qc2, rfl, hQ2⟩ := p2
    obtain rfl : v3 = .agg #[.int .i8 b.f, .int .u16 b.g0, .int .u16 b.g1, .int .u16 b.g2, .int .u16 b.g3, .int .u16 b.g4, .int .u16 b.g5, .int .u16 b.g6, .int .u16 b.g7, .int .i64 b.p] := p3
    obtain ⟨qa4, qc4, rfl, hQ4⟩ := p4
    obtain ⟨qa5, qc5, rfl, hQ5⟩ := p5
    obtain rfl : v6 = .agg #[.int .i8 a.f, .int .u16 a.g0, .int .u16 a.g1, .int .u16 a.g2, .int .u16 a.g3, .int .u16 a.g4, .int .u16 a.g5, .int .u16 a.g6, .int .u16 a.g7, .int .i64 a.p] := p6
    obtain ⟨qa7, qc7, rfl, hQ7⟩ := p7
    obtain ⟨qa8, qc8, rfl, hQ8⟩ := p8
    obtain ⟨qa9, qc9, rfl, hQ9⟩ := p9
    have ha := ByOps.act_eq [(8, .agg #[.int .i8 a.f, .int .u16 a.g0, .int .u16 a.g1, .int .u16 a.g2, .int .u16 a.g3, .int .u16 a.g4, .int .u16 a.g5, .int .u16 a.g6, .int .u16 a.g7, .int .i64 a.p]), (9, .slice qa1 ([a] : List Ad).length qc1), (10, .slice qa2 (L1 : List Sc).length qc2), (11, .agg #[.int .i8 b.f, .int .u16 b.g0, .int .u16 b.g1, .int .u16 b.g2, .int .u16 b.g3, .int .u16 b.g4, .int .u16 b.g5, .int .u16 b.g6, .int .u16 b.g7, .int .i64 b.p]), (12, .slice qa4 ([b] : List Ad).length qc4), (13, .slice qa5 (L2 : List Sc).length qc5), (14, .agg #[.int .i8 a.f, .int .u16 a.g0, .int .u16 a.g1, .int .u16 a.g2, .int .u16 a.g3, .int .u16 a.g4, .int .u16 a.g5, .int .u16 a.g6, .int .u16 a.g7, .int .i64 a.p]), (15, .slice qa7 ([a] : List Ad).length qc7), (16, .slice qa8 (L3 : List Sc).length qc8), (3, .slice qa9 (L3 : List Sc).length qc9)] a9 _ hd9 hs9 (fun t ht => ho9 t (ByOps.outer_of (ts := [8, 9, 10, 11, 12, 13, 14, 15, 16, 3]) rfl ht)) (by intro p hp; simp only [List.mem_cons, List.not_mem_nil, or_false] at hp; rcases hp with rfl | rfl | rfl | rfl | rfl | rfl | rfl | rfl | rfl | rfl <;> assumption)
    rw [ha]
    clear ha hn9 ho9 hs9 hd9 e0 e1 e2 e3 e4 e5 e6 e7 e8 e9
    simp only [List.foldl, Act.put, List.setIfInBounds_toArray, List.set_cons_zero, List.set_cons_succ]
    have hb9 : Below q0.heap.size q0 w7 := ⟨hB9.os, hB9.tape, hB9.output, hB9.size, hB9.block⟩
    clear hB9
    have hb := hb9
    clear hb9
    have Hl := Lib.hid hQ9
    clear hQ1 hQ2 hQ4 hQ5 hQ7 hQ8 hQ9
    replace Ha := Lib.hid ((hb.block _ (lt_of_block Ha.out)).trans Ha.out)
    replace Hb := Lib.hid ((hb.block _ (lt_of_block Hb.out)).trans Hb.out)
    replace HB := Lib.hid (HB.out.trans (hb.mono HB.out.size))
    clear hb
    have HX := Lib.hid (HWo.out L3 9 5 qa9 qc9 a true w7 h4.out h5.out (by rw [h8.out]; omega) Hl.out)
    simp only [Ad.v] at HX
    go_wp2_with fail
    with_reducible refine HX.out.mono ?_
    rintro e w1 ⟨rfl, hb⟩
    clear HX
    replace Hl := Lib.hid (Hl.out.below hb)
    replace Ha := Lib.hid ((hb.block _ (lt_of_block Ha.out)).trans Ha.out)
    replace Hb := Lib.hid ((hb.block _ (lt_of_block Hb.out)).trans Hb.out)
    replace HB := Lib.hid (HB.out.trans (hb.mono HB.out.size))
    clear hb
    simp only [Ad.v]
    go_upto_region 4 with fail
    obtain ⟨q2, hq2⟩ : ∃ X, X = w1.alloc (.cells #[.int .i8 a.f, .int .u16 a.g0, .int .u16 a.g1, .int .u16 a.g2, .int .u16 a.g3, .int .u16 a.g4, .int .u16 a.g5, .int .u16 a.g6, .int .u16 a.g7, .int .i64 a.p] 31) := ⟨_, rfl⟩
    have hb : Below w1.heap.size w1 q2 := by rw [hq2]; exact below1 _ _
    have hL := laid1 w1 (.cells #[.int .i8 a.f, .int .u16 a.g0, .int .u16 a.g1, .int .u16 a.g2, .int .u16 a.g3, .int .u16 a.g4, .int .u16 a.g5, .int .u16 a.g6, .int .u16 a.g7, .int .i64 a.p] 31)
    rw [← hq2] at hL ⊢
    clear hq2
    obtain ⟨bwy, hbwy⟩ : ∃ n, n = w1.heap.size := ⟨_, rfl⟩
    rw [← hbwy] at hL ⊢
    have hswy : w.heap.size ≤ bwy := by rw [hbwy]; exact HB.out.size
    clear hbwy
    replace Hl := Lib.hid (Hl.out.below hb)
    replace Ha := Lib.hid ((hb.block _ (lt_of_block Ha.out)).trans Ha.out)
    replace Hb := Lib.hid ((hb.block _ (lt_of_block Hb.out)).trans Hb.out)
    replace HB := Lib.hid (HB.out.trans (hb.mono HB.out.size))
    clear hb
    have Hwy := Lib.hid hL
    clear hL
    obtain ⟨b3, o3, rfl, hb3, hat⟩ := Hl.out.2.2.2 (by rw [h8.out]; omega)
    have HC0 := Lib.hid (fun (W : World) (h : Below q2.heap.size q2 W) => SK.cells (hat.below h hb3) e0.out)
    have HC1 := Lib.hid (fun (W : World) (h : Below q2.heap.size q2 W) => SK.cells (hat.below h hb3) e1.out)
    clear hat
    have hE := eql_ad a a
    rw [show decide (a = a) = true by simp] at hE
    have hgd := guard_ad
    have hgs := guard_sc
    have hS4 := eql_sc (⟨b, 4⟩ : Sc) ⟨b, 4⟩
    rw [show decide ((⟨b, 4⟩ : Sc) = ⟨b, 4⟩) = true by simp] at hS4
    dsimp only at hS4
    have hS5 := eql_sc (⟨a, 5⟩ : Sc) ⟨a, 5⟩
    rw [show decide ((⟨a, 5⟩ : Sc) = ⟨a, 5⟩) = true by simp] at hS5
    dsimp only at hS5
    have hn2 : ((L3.length : Int) == 2) = true := by rw [h8.out]; rfl
    have hi0 : (0 : Int) < (L3.length : Int) := by rw [h8.out]; omega
    have hi1 : (1 : Int) < (L3.length : Int) := by rw [h8.out]; omega
    have hi2 : 0 < L3.length := by rw [h8.out]; omega
    have hi3 : 1 < L3.length := by rw [h8.out]; omega
    refine ByOps.region_by_sk (by kernel_rfl) (ByOps.facts [.val (.slice (some ⟨b3, o3, none⟩) L3.length qc9), .val (.int .i64 (L3.length : Int)), .val (.bool true), .val (.bool true), .val (.slice (some ⟨b3, o3, none⟩) L3.length qc9), .val (.pointer (some ⟨b3, o3, none⟩)), .val (.agg #[.int .i8 b.f, .int .u16 b.g0, .int .u16 b.g1, .int .u16 b.g2, .int .u16 b.g3, .int .u16 b.g4, .int .u16 b.g5, .int .u16 b.g6, .int .u16 b.g7, .int .i64 b.p, .int .i64 4]), .val (.agg #[.int .i8 b.f, .int .u16 b.g0, .int .u16 b.g1, .int .u16 b.g2, .int .u16 b.g3, .int .u16 b.g4, .int .u16 b.g5, .int .u16 b.g6, .int .u16 b.g7, .int .i64 b.p]), .val (.agg #[.int .i8 b.f, .int .u16 b.g0, .int .u16 b.g1, .int .u16 b.g2, .int .u16 b.g3, .int .u16 b.g4, .int .u16 b.g5, .int .u16 b.g6, .int .u16 b.g7, .int .i64 b.p, .int .i64 4]), .val (.bool true), .val (.bool true), .val (.bool true), .val (.slice (some ⟨b3, o3, none⟩) L3.length qc9), .val (.pointer (some ⟨b3, o3 + 11, none⟩)), .val (.agg #[.int .i8 a.f, .int .u16 a.g0, .int .u16 a.g1, .int .u16 a.g2, .int .u16 a.g3, .int .u16 a.g4, .int .u16 a.g5, .int .u16 a.g6, .int .u16 a.g7, .int .i64 a.p, .int .i64 5]), .val (.agg #[.int .i8 a.f, .int .u16 a.g0, .int .u16 a.g1, .int .u16 a.g2, .int .u16 a.g3, .int .u16 a.g4, .int .u16 a.g5, .int .u16 a.g6, .int .u16 a.g7, .int .i64 a.p]), .val (.agg #[.int .i8 a.f, .int .u16 a.g0, .int .u16 a.g1, .int .u16 a.g2, .int .u16 a.g3, .int .u16 a.g4, .int .u16 a.g5, .int .u16 a.g6, .int .u16 a.g7, .int .i64 a.p, .int .i64 5]), .val (.bool true), .val (.bool true), .val (.bool true), .val (.slice (some ⟨b3, o3, none⟩) L3.length qc9), .val (.agg #[.int .i8 a.f, .int .u16 a.g0, .int .u16 a.g1, .int .u16 a.g2, .int .u16 a.g3, .int .u16 a.g4, .int .u16 a.g5, .int .u16 a.g6, .int .u16 a.g7, .int .i64 a.p]), rowA ([a]), .val (.bool false), .val (.bool true), .val (.bool true), .val (.bool true), .val (.slice (some ⟨b3, o3, none⟩) L3.length qc9), .val (.agg #[.int .i8 a.f, .int .u16 a.g0, .int .u16 a.g1, .int .u16 a.g2, .int .u16 a.g3, .int .u16 a.g4, .int .u16 a.g5, .int .u16 a.g6, .int .u16 a.g7, .int .i64 a.p]), rowA ([a]), .val (.bool true), .val (.bool true), .val (.bool true), .val (.bool true), .val (.bool true), .val (.bool true), .val (.agg #[.int .i8 a.f, .int .u16 a.g0, .int .u16 a.g1, .int .u16 a.g2, .int .u16 a.g3, .int .u16 a.g4, .int .u16 a.g5, .int .u16 a.g6, .int .u16 a.g7, .int .i64 a.p]), .val (.agg #[.int .i8 a.f, .int .u16 a.g0, .int .u16 a.g1, .int .u16 a.g2, .int .u16 a.g3, .int .u16 a.g4, .int .u16 a.g5, .int .u16 a.g6, .int .u16 a.g7, .int .i64 a.p]), .val (.bool true), .val (.bool true), .val (.bool true)]) (ByOps.facts_up _) (by kernel_rfl) (fun _ => false) (ByOps.all_ops ?_) (ByOps.all_ops ?_) (ByOps.all_ops ?_) ?_
    · refine ⟨?_, ?_, ?_, ?_, ?_, ?_, ?_, ?_, ?_, ?_, ?_, ?_, ?_, ?_, ?_, ?_, ?_, ?_, ?_, ?_, ?_, ?_, ?_, ?_, ?_, ?_, ?_, ?_, ?_, ?_, ?_, ?_, ?_, ?_, ?_, ?_, ?_, ?_, ?_, ?_, ?_, trivial⟩
      · intro _ ρ w9 hB hs
        have hBB : Below q2.heap.size q2 w9 := ⟨hB.os, hB.tape, hB.output, hB.size, hB.block⟩
        have h3 : ρ (.tmp 3) = .slice (some ⟨b3, o3, none⟩) L3.length qc9 := (hs _ (by simp [Op.operands, Call.operands])).2 (fun t ht => by cases ht; kernel_rfl)
        exact ByOps.runs_value (by first | rfl | go_simp) (Below.refl _ _) h3
      · intro _ ρ w9 hB hs
        have hBB : Below q2.heap.size q2 w9 := ⟨hB.os, hB.tape, hB.output, hB.size, hB.block⟩
        have h22 : ρ (.tmp 22) = .slice (some ⟨b3, o3, none⟩) L3.length qc9 := (hs (.tmp 22) (by simp [Op.operands, Call.operands])).1 22 rfl 0 _ rfl rfl
        exact ByOps.runs_value (v := .int .i64 (L3.length : Int)) (by first | rfl | go_simp) (Below.refl _ _) rfl
      · intro _ ρ w9 hB hs
        have hBB : Below q2.heap.size q2 w9 := ⟨hB.os, hB.tape, hB.output, hB.size, hB.block⟩
        have h23 : ρ (.tmp 23) = .int .i64 (L3.length : Int) := (hs (.tmp 23) (by simp [Op.operands, Call.operands])).1 23 rfl 1 _ rfl rfl
        have hk : ρ (.const (.int .i64 2)) = .int .i64 2 := (hs _ (by simp [Op.operands, Call.operands])).2 (fun t ht => by cases ht)
        exact ByOps.runs_value (v := .bool true) (by first | rfl | go_simp) (Below.refl _ _) rfl
      · intro _ ρ w9 hB hs
        have hBB : Below q2.heap.size q2 w9 := ⟨hB.os, hB.tape, hB.output, hB.size, hB.block⟩
        have h24 : ρ (.tmp 24) = .bool true := (hs (.tmp 24) (by simp [Op.operands, Call.operands])).1 24 rfl 2 _ rfl rfl
        exact ByOps.runs_value (by first | rfl | go_simp) (Below.refl _ _) h24
      · intro _ ρ w9 hB hs
        have hBB : Below q2.heap.size q2 w9 := ⟨hB.os, hB.tape, hB.output, hB.size, hB.block⟩
        have h3 : ρ (.tmp 3) = .slice (some ⟨b3, o3, none⟩) L3.length qc9 := (hs _ (by simp [Op.operands, Call.operands])).2 (fun t ht => by cases ht; kernel_rfl)
        exact ByOps.runs_value (by first | rfl | go_simp) (Below.refl _ _) h3
      · intro _ ρ w9 hB hs
        have hBB : Below q2.heap.size q2 w9 := ⟨hB.os, hB.tape, hB.output, hB.size, hB.block⟩
        have h26 : ρ (.tmp 26) = .slice (some ⟨b3, o3, none⟩) L3.length qc9 := (hs (.tmp 26) (by simp [Op.operands, Call.operands])).1 26 rfl 4 _ rfl rfl
        have hk : ρ (.const (.int .i64 0)) = .int .i64 0 := (hs _ (by simp [Op.operands, Call.operands])).2 (fun t ht => by cases ht)
        exact ByOps.runs_value (v := .pointer (some ⟨b3, o3, none⟩)) (by first | rfl | go_simp) (Below.refl _ _) rfl
      · intro _ ρ w9 hB hs
        have hBB : Below q2.heap.size q2 w9 := ⟨hB.os, hB.tape, hB.output, hB.size, hB.block⟩
        have h27 : ρ (.tmp 27) = .pointer (some ⟨b3, o3, none⟩) := (hs (.tmp 27) (by simp [Op.operands, Call.operands])).1 27 rfl 5 _ rfl rfl
        obtain ⟨d0, d1, d2, d3, d4, d5, d6, d7, d8, d9, d10⟩ := HC0.out w9 hBB
        simp only [Nat.zero_mul, Nat.add_zero, Nat.one_mul] at d0 d1 d2 d3 d4 d5 d6 d7 d8 d9 d10
        exact ByOps.runs_value (v := .agg #[.int .i8 b.f, .int .u16 b.g0, .int .u16 b.g1, .int .u16 b.g2, .int .u16 b.g3, .int .u16 b.g4, .int .u16 b.g5, .int .u16 b.g6, .int .u16 b.g7, .int .i64 b.p, .int .i64 4]) (by first | rfl | go_simp) (Below.refl _ _) rfl
      · intro _ ρ w9 hB hs
        have hBB : Below q2.heap.size q2 w9 := ⟨hB.os, hB.tape, hB.output, hB.size, hB.block⟩
        have h2 : ρ (.tmp 2) = .pointer (some ⟨bb, 0, none⟩) := (hs _ (by simp [Op.operands, Call.operands])).2 (fun t ht => by cases ht; kernel_rfl)
        obtain ⟨⟨e0, e1, e2, e3, e4, e5, e6, e7, e8, e9⟩, _⟩ := box_10 ((hBB.block _ (lt_of_block Hb.out)).trans Hb.out)
        exact ByOps.runs_value (v := .agg #[.int .i8 b.f, .int .u16 b.g0, .int .u16 b.g1, .int .u16 b.g2, .int .u16 b.g3, .int .u16 b.g4, .int .u16 b.g5, .int .u16 b.g6, .int .u16 b.g7, .int .i64 b.p]) (by first | rfl | go_simp) (Below.refl _ _) rfl
      · intro _ ρ w9 hB hs
        have hBB : Below q2.heap.size q2 w9 := ⟨hB.os, hB.tape, hB.output, hB.size, hB.block⟩
        have h29 : ρ (.tmp 29) = .agg #[.int .i8 b.f, .int .u16 b.g0, .int .u16 b.g1, .int .u16 b.g2, .int .u16 b.g3, .int .u16 b.g4, .int .u16 b.g5, .int .u16 b.g6, .int .u16 b.g7, .int .i64 b.p] := (hs (.tmp 29) (by simp [Op.operands, Call.operands])).1 29 rfl 7 _ rfl rfl
        have hk1 : ρ (.const (.int .i64 4)) = .int .i64 4 := (hs _ (by simp [Op.operands, Call.operands])).2 (fun t ht => by cases ht)
        exact ByOps.runs_value (v := .agg #[.int .i8 b.f, .int .u16 b.g0, .int .u16 b.g1, .int .u16 b.g2, .int .u16 b.g3, .int .u16 b.g4, .int .u16 b.g5, .int .u16 b.g6, .int .u16 b.g7, .int .i64 b.p, .int .i64 4]) (by first | rfl | go_simp) (Below.refl _ _) rfl
      · intro _ ρ w9 hB hs
        have hBB : Below q2.heap.size q2 w9 := ⟨hB.os, hB.tape, hB.output, hB.size, hB.block⟩
        have h28 : ρ (.tmp 28) = .agg #[.int .i8 b.f, .int .u16 b.g0, .int .u16 b.g1, .int .u16 b.g2, .int .u16 b.g3, .int .u16 b.g4, .int .u16 b.g5, .int .u16 b.g6, .int .u16 b.g7, .int .i64 b.p, .int .i64 4] := (hs (.tmp 28) (by simp [Op.operands, Call.operands])).1 28 rfl 6 _ rfl rfl
        have h30 : ρ (.tmp 30) = .agg #[.int .i8 b.f, .int .u16 b.g0, .int .u16 b.g1, .int .u16 b.g2, .int .u16 b.g3, .int .u16 b.g4, .int .u16 b.g5, .int .u16 b.g6, .int .u16 b.g7, .int .i64 b.p, .int .i64 4] := (hs (.tmp 30) (by simp [Op.operands, Call.operands])).1 30 rfl 8 _ rfl rfl
        exact ByOps.runs_value (v := .bool true) (by first | rfl | go_simp) (Below.refl _ _) rfl
      · intro _ ρ w9 hB hs
        have hBB : Below q2.heap.size q2 w9 := ⟨hB.os, hB.tape, hB.output, hB.size, hB.block⟩
        have h25 : ρ (.tmp 25) = .bool true := (hs (.tmp 25) (by simp [Op.operands, Call.operands])).1 25 rfl 3 _ rfl rfl
        have h31 : ρ (.tmp 31) = .bool true := (hs (.tmp 31) (by simp [Op.operands, Call.operands])).1 31 rfl 9 _ rfl rfl
        exact ByOps.runs_value (v := .bool true) (by first | rfl | go_simp) (Below.refl _ _) rfl
      · intro _ ρ w9 hB hs
        have hBB : Below q2.heap.size q2 w9 := ⟨hB.os, hB.tape, hB.output, hB.size, hB.block⟩
        have h32 : ρ (.tmp 32) = .bool true := (hs (.tmp 32) (by simp [Op.operands, Call.operands])).1 32 rfl 10 _ rfl rfl
        exact ByOps.runs_value (by first | rfl | go_simp) (Below.refl _ _) h32
      · intro _ ρ w9 hB hs
        have hBB : Below q2.heap.size q2 w9 := ⟨hB.os, hB.tape, hB.output, hB.size, hB.block⟩
        have h3 : ρ (.tmp 3) = .slice (some ⟨b3, o3, none⟩) L3.length qc9 := (hs _ (by simp [Op.operands, Call.operands])).2 (fun t ht => by cases ht; kernel_rfl)
        exact ByOps.runs_value (by first | rfl | go_simp) (Below.refl _ _) h3
      · intro _ ρ w9 hB hs
        have hBB : Below q2.heap.size q2 w9 := ⟨hB.os, hB.tape, hB.output, hB.size, hB.block⟩
        have h34 : ρ (.tmp 34) = .slice (some ⟨b3, o3, none⟩) L3.length qc9 := (hs (.tmp 34) (by simp [Op.operands, Call.operands])).1 34 rfl 12 _ rfl rfl
        have hk : ρ (.const (.int .i64 1)) = .int .i64 1 := (hs _ (by simp [Op.operands, Call.operands])).2 (fun t ht => by cases ht)
        exact ByOps.runs_value (v := .pointer (some ⟨b3, o3 + 11, none⟩)) (by first | rfl | go_simp) (Below.refl _ _) rfl
      · intro _ ρ w9 hB hs
        have hBB : Below q2.heap.size q2 w9 := ⟨hB.os, hB.tape, hB.output, hB.size, hB.block⟩
        have h35 : ρ (.tmp 35) = .pointer (some ⟨b3, o3 + 11, none⟩) := (hs (.tmp 35) (by simp [Op.operands, Call.operands])).1 35 rfl 13 _ rfl rfl
        obtain ⟨d0, d1, d2, d3, d4, d5, d6, d7, d8, d9, d10⟩ := HC1.out w9 hBB
        simp only [Nat.zero_mul, Nat.add_zero, Nat.one_mul] at d0 d1 d2 d3 d4 d5 d6 d7 d8 d9 d10
        exact ByOps.runs_value (v := .agg #[.int .i8 a.f, .int .u16 a.g0, .int .u16 a.g1, .int .u16 a.g2, .int .u16 a.g3, .int .u16 a.g4, .int .u16 a.g5, .int .u16 a.g6, .int .u16 a.g7, .int .i64 a.p, .int .i64 5]) (by first | rfl | go_simp) (Below.refl _ _) rfl
      · intro _ ρ w9 hB hs
        have hBB : Below q2.heap.size q2 w9 := ⟨hB.os, hB.tape, hB.output, hB.size, hB.block⟩
        have h1 : ρ (.tmp 1) = .pointer (some ⟨w.heap.size, 0, none⟩) := (hs _ (by simp [Op.operands, Call.operands])).2 (fun t ht => by cases ht; kernel_rfl)
        obtain ⟨⟨e0, e1, e2, e3, e4, e5, e6, e7, e8, e9⟩, _⟩ := box_10 ((hBB.block _ (lt_of_block Ha.out)).trans Ha.out)
        exact ByOps.runs_value (v := .agg #[.int .i8 a.f, .int .u16 a.g0, .int .u16 a.g1, .int .u16 a.g2, .int .u16 a.g3, .int .u16 a.g4, .int .u16 a.g5, .int .u16 a.g6, .int .u16 a.g7, .int .i64 a.p]) (by first | rfl | go_simp) (Below.refl _ _) rfl
      · intro _ ρ w9 hB hs
        have hBB : Below q2.heap.size q2 w9 := ⟨hB.os, hB.tape, hB.output, hB.size, hB.block⟩
        have h37 : ρ (.tmp 37) = .agg #[.int .i8 a.f, .int .u16 a.g0, .int .u16 a.g1, .int .u16 a.g2, .int .u16 a.g3, .int .u16 a.g4, .int .u16 a.g5, .int .u16 a.g6, .int .u16 a.g7, .int .i64 a.p] := (hs (.tmp 37) (by simp [Op.operands, Call.operands])).1 37 rfl 15 _ rfl rfl
        have hk1 : ρ (.const (.int .i64 5)) = .int .i64 5 := (hs _ (by simp [Op.operands, Call.operands])).2 (fun t ht => by cases ht)
        exact ByOps.runs_value (v := .agg #[.int .i8 a.f, .int .u16 a.g0, .int .u16 a.g1, .int .u16 a.g2, .int .u16 a.g3, .int .u16 a.g4, .int .u16 a.g5, .int .u16 a.g6, .int .u16 a.g7, .int .i64 a.p, .int .i64 5]) (by first | rfl | go_simp) (Below.refl _ _) rfl
      · intro _ ρ w9 hB hs
        have hBB : Below q2.heap.size q2 w9 := ⟨hB.os, hB.tape, hB.output, hB.size, hB.block⟩
        have h36 : ρ (.tmp 36) = .agg #[.int .i8 a.f, .int .u16 a.g0, .int .u16 a.g1, .int .u16 a.g2, .int .u16 a.g3, .int .u16 a.g4, .int .u16 a.g5, .int .u16 a.g6, .int .u16 a.g7, .int .i64 a.p, .int .i64 5] := (hs (.tmp 36) (by simp [Op.operands, Call.operands])).1 36 rfl 14 _ rfl rfl
        have h38 : ρ (.tmp 38) = .agg #[.int .i8 a.f, .int .u16 a.g0, .int .u16 a.g1, .int .u16 a.g2, .int .u16 a.g3, .int .u16 a.g4, .int .u16 a.g5, .int .u16 a.g6, .int .u16 a.g7, .int .i64 a.p, .int .i64 5] := (hs (.tmp 38) (by simp [Op.operands, Call.operands])).1 38 rfl 16 _ rfl rfl
        exact ByOps.runs_value (v := .bool true) (by first | rfl | go_simp) (Below.refl _ _) rfl
      · intro _ ρ w9 hB hs
        have hBB : Below q2.heap.size q2 w9 := ⟨hB.os, hB.tape, hB.output, hB.size, hB.block⟩
        have h33 : ρ (.tmp 33) = .bool true := (hs (.tmp 33) (by simp [Op.operands, Call.operands])).1 33 rfl 11 _ rfl rfl
        have h39 : ρ (.tmp 39) = .bool true := (hs (.tmp 39) (by simp [Op.operands, Call.operands])).1 39 rfl 17 _ rfl rfl
        exact ByOps.runs_value (v := .bool true) (by first | rfl | go_simp) (Below.refl _ _) rfl
      · intro _ ρ w9 hB hs
        have hBB : Below q2.heap.size q2 w9 := ⟨hB.os, hB.tape, hB.output, hB.size, hB.block⟩
        have h40 : ρ (.tmp 40) = .bool true := (hs (.tmp 40) (by simp [Op.operands, Call.operands])).1 40 rfl 18 _ rfl rfl
        exact ByOps.runs_value (by first | rfl | go_simp) (Below.refl _ _) h40
      · intro _ ρ w9 hB hs
        have hBB : Below q2.heap.size q2 w9 := ⟨hB.os, hB.tape, hB.output, hB.size, hB.block⟩
        have h3 : ρ (.tmp 3) = .slice (some ⟨b3, o3, none⟩) L3.length qc9 := (hs _ (by simp [Op.operands, Call.operands])).2 (fun t ht => by cases ht; kernel_rfl)
        exact ByOps.runs_value (by first | rfl | go_simp) (Below.refl _ _) h3
      · intro _ ρ w9 hB hs
        have hBB : Below q2.heap.size q2 w9 := ⟨hB.os, hB.tape, hB.output, hB.size, hB.block⟩
        have h1 : ρ (.tmp 1) = .pointer (some ⟨w.heap.size, 0, none⟩) := (hs _ (by simp [Op.operands, Call.operands])).2 (fun t ht => by cases ht; kernel_rfl)
        obtain ⟨⟨e0, e1, e2, e3, e4, e5, e6, e7, e8, e9⟩, _⟩ := box_10 ((hBB.block _ (lt_of_block Ha.out)).trans Ha.out)
        exact ByOps.runs_value (v := .agg #[.int .i8 a.f, .int .u16 a.g0, .int .u16 a.g1, .int .u16 a.g2, .int .u16 a.g3, .int .u16 a.g4, .int .u16 a.g5, .int .u16 a.g6, .int .u16 a.g7, .int .i64 a.p]) (by first | rfl | go_simp) (Below.refl _ _) rfl
      · intro _ ρ w9 hB hs
        have hBB : Below q2.heap.size q2 w9 := ⟨hB.os, hB.tape, hB.output, hB.size, hB.block⟩
        have h43 : ρ (.tmp 43) = .agg #[.int .i8 a.f, .int .u16 a.g0, .int .u16 a.g1, .int .u16 a.g2, .int .u16 a.g3, .int .u16 a.g4, .int .u16 a.g5, .int .u16 a.g6, .int .u16 a.g7, .int .i64 a.p] := (hs (.tmp 43) (by simp [Op.operands, Call.operands])).1 43 rfl 21 _ rfl rfl
        exact ByOps.runs_value (v := .slice (some ⟨w9.heap.size, 0, none⟩) 1 1) (w' := w9.alloc (.cells #[.int .i8 a.f, .int .u16 a.g0, .int .u16 a.g1, .int .u16 a.g2, .int .u16 a.g3, .int .u16 a.g4, .int .u16 a.g5, .int .u16 a.g6, .int .u16 a.g7, .int .i64 a.p] 31)) (by go_simp) (below1 _ _) ⟨some ⟨w9.heap.size, 0, none⟩, 1, rfl, rowC_at (K := AK) w9 31 [a] #[.int .i8 a.f, .int .u16 a.g0, .int .u16 a.g1, .int .u16 a.g2, .int .u16 a.g3, .int .u16 a.g4, .int .u16 a.g5, .int .u16 a.g6, .int .u16 a.g7, .int .i64 a.p] w9.heap.size 1 rfl rfl rfl (by simp)⟩
      · intro _ ρ w9 hB hs
        have hBB : Below q2.heap.size q2 w9 := ⟨hB.os, hB.tape, hB.output, hB.size, hB.block⟩
        have h42 : ρ (.tmp 42) = .slice (some ⟨b3, o3, none⟩) L3.length qc9 := (hs (.tmp 42) (by simp [Op.operands, Call.operands])).1 42 rfl 20 _ rfl rfl
        have hk1 : ρ (.const (.int .i64 2)) = .int .i64 2 := (hs _ (by simp [Op.operands, Call.operands])).2 (fun t ht => by cases ht)
        have hk2 : ρ (.const (.int .i64 7)) = .int .i64 7 := (hs _ (by simp [Op.operands, Call.operands])).2 (fun t ht => by cases ht)
        have h44 : ∃ a1 c1, ρ (.tmp 44) = .slice a1 ([a] : List Ad).length c1 ∧ AK.RowC w9 a1 c1 ([a]) := (hs (.tmp 44) (by simp [Op.operands, Call.operands])).1 44 rfl 22 _ rfl rfl
        obtain ⟨ra44, rc44, h44, hR44⟩ := h44
        have hfn : ρ (.func 10) = .func (.func 10) #[] #[] := (hs _ (by simp [Op.operands, Call.operands])).2 (fun t ht => by cases ht)
        refine ByOps.runs_enter (f := 10) (args := #[.slice (some ⟨b3, o3, none⟩) L3.length qc9, .int .i64 2, .int .i64 7, .slice ra44 ([a] : List Ad).length rc44]) (by go_simp) ?_
        exact (HHa.out L3 2 7 [a] (some ⟨b3, o3, none⟩) ra44 qc9 rc44 false w9 h6.out (by rw [h8.out]; omega) (by simp) (Hl.out.below hBB) hR44).mono fun e w2 ⟨he, hb⟩ => ⟨_, he, hb, rfl⟩
      · intro _ ρ w9 hB hs
        have hBB : Below q2.heap.size q2 w9 := ⟨hB.os, hB.tape, hB.output, hB.size, hB.block⟩
        have h45 : ρ (.tmp 45) = .bool false := (hs (.tmp 45) (by simp [Op.operands, Call.operands])).1 45 rfl 23 _ rfl rfl
        exact ByOps.runs_value (v := .bool true) (by first | rfl | go_simp) (Below.refl _ _) rfl
      · intro _ ρ w9 hB hs
        have hBB : Below q2.heap.size q2 w9 := ⟨hB.os, hB.tape, hB.output, hB.size, hB.block⟩
        have h41 : ρ (.tmp 41) = .bool true := (hs (.tmp 41) (by simp [Op.operands, Call.operands])).1 41 rfl 19 _ rfl rfl
        have h46 : ρ (.tmp 46) = .bool true := (hs (.tmp 46) (by simp [Op.operands, Call.operands])).1 46 rfl 24 _ rfl rfl
        exact ByOps.runs_value (v := .bool true) (by first | rfl | go_simp) (Below.refl _ _) rfl
      · intro _ ρ w9 hB hs
        have hBB : Below q2.heap.size q2 w9 := ⟨hB.os, hB.tape, hB.output, hB.size, hB.block⟩
        have h47 : ρ (.tmp 47) = .bool true := (hs (.tmp 47) (by simp [Op.operands, Call.operands])).1 47 rfl 25 _ rfl rfl
        exact ByOps.runs_value (by first | rfl | go_simp) (Below.refl _ _) h47
      · intro _ ρ w9 hB hs
        have hBB : Below q2.heap.size q2 w9 := ⟨hB.os, hB.tape, hB.output, hB.size, hB.block⟩
        have h3 : ρ (.tmp 3) = .slice (some ⟨b3, o3, none⟩) L3.length qc9 := (hs _ (by simp [Op.operands, Call.operands])).2 (fun t ht => by cases ht; kernel_rfl)
        exact ByOps.runs_value (by first | rfl | go_simp) (Below.refl _ _) h3
      · intro _ ρ w9 hB hs
        have hBB : Below q2.heap.size q2 w9 := ⟨hB.os, hB.tape, hB.output, hB.size, hB.block⟩
        have h1 : ρ (.tmp 1) = .pointer (some ⟨w.heap.size, 0, none⟩) := (hs _ (by simp [Op.operands, Call.operands])).2 (fun t ht => by cases ht; kernel_rfl)
        obtain ⟨⟨e0, e1, e2, e3, e4, e5, e6, e7, e8, e9⟩, _⟩ := box_10 ((hBB.block _ (lt_of_block Ha.out)).trans Ha.out)
        exact ByOps.runs_value (v := .agg #[.int .i8 a.f, .int .u16 a.g0, .int .u16 a.g1, .int .u16 a.g2, .int .u16 a.g3, .int .u16 a.g4, .int .u16 a.g5, .int .u16 a.g6, .int .u16 a.g7, .int .i64 a.p]) (by first | rfl | go_simp) (Below.refl _ _) rfl
      · intro _ ρ w9 hB hs
        have hBB : Below q2.heap.size q2 w9 := ⟨hB.os, hB.tape, hB.output, hB.size, hB.block⟩
        have h50 : ρ (.tmp 50) = .agg #[.int .i8 a.f, .int .u16 a.g0, .int .u16 a.g1, .int .u16 a.g2, .int .u16 a.g3, .int .u16 a.g4, .int .u16 a.g5, .int .u16 a.g6, .int .u16 a.g7, .int .i64 a.p] := (hs (.tmp 50) (by simp [Op.operands, Call.operands])).1 50 rfl 28 _ rfl rfl
        exact ByOps.runs_value (v := .slice (some ⟨w9.heap.size, 0, none⟩) 1 1) (w' := w9.alloc (.cells #[.int .i8 a.f, .int .u16 a.g0, .int .u16 a.g1, .int .u16 a.g2, .int .u16 a.g3, .int .u16 a.g4, .int .u16 a.g5, .int .u16 a.g6, .int .u16 a.g7, .int .i64 a.p] 31)) (by go_simp) (below1 _ _) ⟨some ⟨w9.heap.size, 0, none⟩, 1, rfl, rowC_at (K := AK) w9 31 [a] #[.int .i8 a.f, .int .u16 a.g0, .int .u16 a.g1, .int .u16 a.g2, .int .u16 a.g3, .int .u16 a.g4, .int .u16 a.g5, .int .u16 a.g6, .int .u16 a.g7, .int .i64 a.p] w9.heap.size 1 rfl rfl rfl (by simp)⟩
      · intro _ ρ w9 hB hs
        have hBB : Below q2.heap.size q2 w9 := ⟨hB.os, hB.tape, hB.output, hB.size, hB.block⟩
        have h49 : ρ (.tmp 49) = .slice (some ⟨b3, o3, none⟩) L3.length qc9 := (hs (.tmp 49) (by simp [Op.operands, Call.operands])).1 49 rfl 27 _ rfl rfl
        have hk1 : ρ (.const (.int .i64 2)) = .int .i64 2 := (hs _ (by simp [Op.operands, Call.operands])).2 (fun t ht => by cases ht)
        have hk2 : ρ (.const (.int .i64 6)) = .int .i64 6 := (hs _ (by simp [Op.operands, Call.operands])).2 (fun t ht => by cases ht)
        have h51 : ∃ a1 c1, ρ (.tmp 51) = .slice a1 ([a] : List Ad).length c1 ∧ AK.RowC w9 a1 c1 ([a]) := (hs (.tmp 51) (by simp [Op.operands, Call.operands])).1 51 rfl 29 _ rfl rfl
        obtain ⟨ra51, rc51, h51, hR51⟩ := h51
        have hfn : ρ (.func 10) = .func (.func 10) #[] #[] := (hs _ (by simp [Op.operands, Call.operands])).2 (fun t ht => by cases ht)
        refine ByOps.runs_enter (f := 10) (args := #[.slice (some ⟨b3, o3, none⟩) L3.length qc9, .int .i64 2, .int .i64 6, .slice ra51 ([a] : List Ad).length rc51]) (by go_simp) ?_
        exact (HHa.out L3 2 6 [a] (some ⟨b3, o3, none⟩) ra51 qc9 rc51 true w9 h7.out (by rw [h8.out]; omega) (by simp) (Hl.out.below hBB) hR51).mono fun e w2 ⟨he, hb⟩ => ⟨_, he, hb, rfl⟩
      · intro _ ρ w9 hB hs
        have hBB : Below q2.heap.size q2 w9 := ⟨hB.os, hB.tape, hB.output, hB.size, hB.block⟩
        have h48 : ρ (.tmp 48) = .bool true := (hs (.tmp 48) (by simp [Op.operands, Call.operands])).1 48 rfl 26 _ rfl rfl
        have h52 : ρ (.tmp 52) = .bool true := (hs (.tmp 52) (by simp [Op.operands, Call.operands])).1 52 rfl 30 _ rfl rfl
        exact ByOps.runs_value (v := .bool true) (by first | rfl | go_simp) (Below.refl _ _) rfl
      · intro _ ρ w9 hB hs
        have hBB : Below q2.heap.size q2 w9 := ⟨hB.os, hB.tape, hB.output, hB.size, hB.block⟩
        have h53 : ρ (.tmp 53) = .bool true := (hs (.tmp 53) (by simp [Op.operands, Call.operands])).1 53 rfl 31 _ rfl rfl
        exact ByOps.runs_value (by first | rfl | go_simp) (Below.refl _ _) h53
      · intro _ ρ w9 hB hs
        have hBB : Below q2.heap.size q2 w9 := ⟨hB.os, hB.tape, hB.output, hB.size, hB.block⟩
        have h5 : ρ (.tmp 5) = .bool true := (hs _ (by simp [Op.operands, Call.operands])).2 (fun t ht => by cases ht; kernel_rfl)
        exact ByOps.runs_value (by first | rfl | go_simp) (Below.refl _ _) h5
      · intro _ ρ w9 hB hs
        have hBB : Below q2.heap.size q2 w9 := ⟨hB.os, hB.tape, hB.output, hB.size, hB.block⟩
        have h54 : ρ (.tmp 54) = .bool true := (hs (.tmp 54) (by simp [Op.operands, Call.operands])).1 54 rfl 32 _ rfl rfl
        have h55 : ρ (.tmp 55) = .bool true := (hs (.tmp 55) (by simp [Op.operands, Call.operands])).1 55 rfl 33 _ rfl rfl
        exact ByOps.runs_value (v := .bool true) (by first | rfl | go_simp) (Below.refl _ _) rfl
      · intro _ ρ w9 hB hs
        have hBB : Below q2.heap.size q2 w9 := ⟨hB.os, hB.tape, hB.output, hB.size, hB.block⟩
        have h56 : ρ (.tmp 56) = .bool true := (hs (.tmp 56) (by simp [Op.operands, Call.operands])).1 56 rfl 34 _ rfl rfl
        exact ByOps.runs_value (by first | rfl | go_simp) (Below.refl _ _) h56
      · intro _ ρ w9 hB hs
        have hBB : Below q2.heap.size q2 w9 := ⟨hB.os, hB.tape, hB.output, hB.size, hB.block⟩
        have h4 : ρ (.tmp 4) = .pointer (some ⟨bwy, 0, none⟩) := (hs _ (by simp [Op.operands, Call.operands])).2 (fun t ht => by cases ht; kernel_rfl)
        obtain ⟨⟨e0, e1, e2, e3, e4, e5, e6, e7, e8, e9⟩, _⟩ := box_10 ((hBB.block _ (lt_of_block Hwy.out)).trans Hwy.out)
        exact ByOps.runs_value (v := .agg #[.int .i8 a.f, .int .u16 a.g0, .int .u16 a.g1, .int .u16 a.g2, .int .u16 a.g3, .int .u16 a.g4, .int .u16 a.g5, .int .u16 a.g6, .int .u16 a.g7, .int .i64 a.p]) (by first | rfl | go_simp) (Below.refl _ _) rfl
      · intro _ ρ w9 hB hs
        have hBB : Below q2.heap.size q2 w9 := ⟨hB.os, hB.tape, hB.output, hB.size, hB.block⟩
        have h1 : ρ (.tmp 1) = .pointer (some ⟨w.heap.size, 0, none⟩) := (hs _ (by simp [Op.operands, Call.operands])).2 (fun t ht => by cases ht; kernel_rfl)
        obtain ⟨⟨e0, e1, e2, e3, e4, e5, e6, e7, e8, e9⟩, _⟩ := box_10 ((hBB.block _ (lt_of_block Ha.out)).trans Ha.out)
        exact ByOps.runs_value (v := .agg #[.int .i8 a.f, .int .u16 a.g0, .int .u16 a.g1, .int .u16 a.g2, .int .u16 a.g3, .int .u16 a.g4, .int .u16 a.g5, .int .u16 a.g6, .int .u16 a.g7, .int .i64 a.p]) (by first | rfl | go_simp) (Below.refl _ _) rfl
      · intro _ ρ w9 hB hs
        have hBB : Below q2.heap.size q2 w9 := ⟨hB.os, hB.tape, hB.output, hB.size, hB.block⟩
        have h58 : ρ (.tmp 58) = .agg #[.int .i8 a.f, .int .u16 a.g0, .int .u16 a.g1, .int .u16 a.g2, .int .u16 a.g3, .int .u16 a.g4, .int .u16 a.g5, .int .u16 a.g6, .int .u16 a.g7, .int .i64 a.p] := (hs (.tmp 58) (by simp [Op.operands, Call.operands])).1 58 rfl 36 _ rfl rfl
        have h59 : ρ (.tmp 59) = .agg #[.int .i8 a.f, .int .u16 a.g0, .int .u16 a.g1, .int .u16 a.g2, .int .u16 a.g3, .int .u16 a.g4, .int .u16 a.g5, .int .u16 a.g6, .int .u16 a.g7, .int .i64 a.p] := (hs (.tmp 59) (by simp [Op.operands, Call.operands])).1 59 rfl 37 _ rfl rfl
        exact ByOps.runs_value (v := .bool true) (by first | rfl | go_simp) (Below.refl _ _) rfl
      · intro _ ρ w9 hB hs
        have hBB : Below q2.heap.size q2 w9 := ⟨hB.os, hB.tape, hB.output, hB.size, hB.block⟩
        have h57 : ρ (.tmp 57) = .bool true := (hs (.tmp 57) (by simp [Op.operands, Call.operands])).1 57 rfl 35 _ rfl rfl
        have h60 : ρ (.tmp 60) = .bool true := (hs (.tmp 60) (by simp [Op.operands, Call.operands])).1 60 rfl 38 _ rfl rfl
        exact ByOps.runs_value (v := .bool true) (by first | rfl | go_simp) (Below.refl _ _) rfl
      · intro _ ρ w9 hB hs
        have hBB : Below q2.heap.size q2 w9 := ⟨hB.os, hB.tape, hB.output, hB.size, hB.block⟩
        have h61 : ρ (.tmp 61) = .bool true := (hs (.tmp 61) (by simp [Op.operands, Call.operands])).1 61 rfl 39 _ rfl rfl
        exact ByOps.runs_value (by first | rfl | go_simp) (Below.refl _ _) h61
    · refine ⟨?_, ?_, ?_, ?_, ?_, ?_, ?_, ?_, ?_, ?_, ?_, ?_, ?_, ?_, ?_, ?_, ?_, ?_, ?_, ?_, ?_, ?_, ?_, ?_, ?_, ?_, ?_, ?_, ?_, ?_, ?_, ?_, ?_, ?_, ?_, ?_, ?_, ?_, ?_, ?_, ?_, trivial⟩
      all_goals first | (intro hs0; cases hs0; done) | (intro _; exact ⟨by simp, fun _ => rfl⟩)
    · refine ⟨?_, ?_, ?_, ?_, ?_, ?_, ?_, ?_, ?_, ?_, ?_, ?_, ?_, ?_, ?_, ?_, ?_, ?_, ?_, ?_, ?_, ?_, ?_, ?_, ?_, ?_, ?_, ?_, ?_, ?_, ?_, ?_, ?_, ?_, ?_, ?_, ?_, ?_, ?_, ?_, ?_, trivial⟩
      all_goals first | (intro g b h; cases h; done) | (intro g b h; cases h; intro v w h; exact ⟨fun h0 => (by first | exact h | cases h0), fun h0 => (by first | cases h0; done | exact .inl h | exact .inr h)⟩)
    · intro a9 w9 hd9 hs9 ho9 hn9 hB9
      obtain ⟨v0, e0, p0⟩ := hn9 0 _ 22 rfl rfl
      obtain ⟨v1, e1, p1⟩ := hn9 1 _ 23 rfl rfl
      obtain ⟨v2, e2, p2⟩ := hn9 2 _ 24 rfl rfl
      obtain ⟨v3, e3, p3⟩ := hn9 3 _ 25 rfl rfl
      obtain ⟨v4, e4, p4⟩ := hn9 4 _ 26 rfl rfl
      obtain ⟨v5, e5, p5⟩ := hn9 5 _ 27 rfl rfl
      obtain ⟨v6, e6, p6⟩ := hn9 6 _ 28 rfl rfl
      obtain ⟨v7, e7, p7⟩ := hn9 7 _ 29 rfl rfl
      obtain ⟨v8, e8, p8⟩ := hn9 8 _ 30 rfl rfl
      obtain ⟨v9, e9, p9⟩ := hn9 9 _ 31 rfl rfl
      obtain ⟨v10, e10, p10⟩ := hn9 10 _ 32 rfl rfl
      obtain ⟨v11, e11, p11⟩ := hn9 11 _ 33 rfl rfl
      obtain ⟨v12, e12, p12⟩ := hn9 12 _ 34 rfl rfl
      obtain ⟨v13, e13, p13⟩ := hn9 13 _ 35 rfl rfl
      obtain ⟨v14, e14, p14⟩ := hn9 14 _ 36 rfl rfl
      obtain ⟨v15, e15, p15⟩ := hn9 15 _ 37 rfl rfl
      obtain ⟨v16, e16, p16⟩ := hn9 16 _ 38 rfl rfl
      obtain ⟨v17, e17, p17⟩ := hn9 17 _ 39 rfl rfl
      obtain ⟨v18, e18, p18⟩ := hn9 18 _ 40 rfl rfl
      obtain ⟨v19, e19, p19⟩ := hn9 19 _ 41 rfl rfl
      obtain ⟨v20, e20, p20⟩ := hn9 20 _ 42 rfl rfl
      obtain ⟨v21, e21, p21⟩ := hn9 21 _ 43 rfl rfl
      obtain ⟨v22, e22, p22⟩ := hn9 22 _ 44 rfl rfl
      obtain ⟨v23, e23, p23⟩ := hn9 23 _ 45 rfl rfl
      obtain ⟨v24, e24, p24⟩ := hn9 24 _ 46 rfl rfl
      obtain ⟨v25, e25, p25⟩ := hn9 25 _ 47 rfl rfl
      obtain ⟨v26, e26, p26⟩ := hn9 26 _ 48 rfl rfl
      obtain ⟨v27, e27, p27⟩ := hn9 27 _ 49 rfl rfl
      obtain ⟨v28, e28, p28⟩ := hn9 28 _ 50 rfl rfl
      obtain ⟨v29, e29, p29⟩ := hn9 29 _ 51 rfl rfl
      obtain ⟨v30, e30, p30⟩ := hn9 30 _ 52 rfl rfl
      obtain ⟨v31, e31, p31⟩ := hn9 31 _ 53 rfl rfl
      obtain ⟨v32, e32, p32⟩ := hn9 32 _ 54 rfl rfl
      obtain ⟨v33, e33, p33⟩ := hn9 33 _ 55 rfl rfl
      obtain ⟨v34, e34, p34⟩ := hn9 34 _ 56 rfl rfl
      obtain ⟨v35, e35, p35⟩ := hn9 35 _ 57 rfl rfl
      obtain ⟨v36, e36, p36⟩ := hn9 36 _ 58 rfl rfl
      obtain ⟨v37, e37, p37⟩ := hn9 37 _ 59 rfl rfl
      obtain ⟨v38, e38, p38⟩ := hn9 38 _ 60 rfl rfl
      obtain ⟨v39, e39, p39⟩ := hn9 39 _ 61 rfl rfl
      obtain ⟨v40, e40, p40⟩ := hn9 40 _ 0 rfl rfl
      obtain rfl : v0 = .slice (some ⟨b3, o3, none⟩) L3.length qc9 := p0
      obtain rfl : v1 = .int .i64 (L3.length : Int) := p1
      obtain rfl : v2 = .bool true := p2
      obtain rfl : v3 = .bool true := p3
      obtain rfl : v4 = .slice (some ⟨b3, o3, none⟩) L3.length qc9 := p4
      obtain rfl : v5 = .pointer (some ⟨b3, o3, none⟩) := p5
      obtain rfl : v6 = .agg #[.int .i8 b.f, .int .u16 b.g0, .int .u16 b.g1, .int .u16 b.g2, .int .u16 b.g3, .int .u16 b.g4, .int .u16 b.g5, .int .u16 b.g6, .int .u16 b.g7, .int .i64 b.p, .int .i64 4] := p6
      obtain rfl : v7 = .agg #[.int .i8 b.f, .int .u16 b.g0, .int .u16 b.g1, .int .u16 b.g2, .int .u16 b.g3, .int .u16 b.g4, .int .u16 b.g5, .int .u16 b.g6, .int .u16 b.g7, .int .i64 b.p] := p7
      obtain rfl : v8 = .agg #[.int .i8 b.f, .int .u16 b.g0, .int .u16 b.g1, .int .u16 b.g2, .int .u16 b.g3, .int .u16 b.g4, .int .u16 b.g5, .int .u16 b.g6, .int .u16 b.g7, .int .i64 b.p, .int .i64 4] := p8
      obtain rfl : v9 = .bool true := p9
      obtain rfl : v10 = .bool true := p10
      obtain rfl : v11 = .bool true := p11
      obtain rfl : v12 = .slice (some ⟨b3, o3, none⟩) L3.length qc9 := p12
      obtain rfl : v13 = .pointer (some ⟨b3, o3 + 11, none⟩) := p13
      obtain rfl : v14 = .agg #[.int .i8 a.f, .int .u16 a.g0, .int .u16 a.g1, .int .u16 a.g2, .int .u16 a.g3, .int .u16 a.g4, .int .u16 a.g5, .int .u16 a.g6, .int .u16 a.g7, .int .i64 a.p, .int .i64 5] := p14
      obtain rfl : v15 = .agg #[.int .i8 a.f, .int .u16 a.g0, .int .u16 a.g1, .int .u16 a.g2, .int .u16 a.g3, .int .u16 a.g4, .int .u16 a.g5, .int .u16 a.g6, .int .u16 a.g7, .int .i64 a.p] := p15
      obtain rfl : v16 = .agg #[.int .i8 a.f, .int .u16 a.g0, .int .u16 a.g1, .int .u16 a.g2, .int .u16 a.g3, .int .u16 a.g4, .int .u16 a.g5, .int .u16 a.g6, .int .u16 a.g7, .int .i64 a.p, .int .i64 5] := p16
      obtain rfl : v17 = .bool true := p17
      obtain rfl : v18 = .bool true := p18
      obtain rfl : v19 = .bool true := p19
      obtain rfl : v20 = .slice (some ⟨b3, o3, none⟩) L3.length qc9 := p20
      obtain rfl : v21 = .agg #[.int .i8 a.f, .int .u16 a.g0, .int .u16 a.g1, .int .u16 a.g2, .int .u16 a.g3, .int .u16 a.g4, .int .u16 a.g5, .int .u16 a.g6, .int .u16 a.g7, .int .i64 a.p] := p21
      obtain ⟨qa22, qc22, rfl, hQ22⟩ := p22
      obtain rfl : v23 = .bool false := p23
      obtain rfl : v24 = .bool true := p24
      obtain rfl : v25 = .bool true := p25
      obtain rfl : v26 = .bool true := p26
      obtain rfl : v27 = .slice (some ⟨b3, o3, none⟩) L3.length qc9 := p27
      obtain rfl : v28 = .agg #[.int .i8 a.f, .int .u16 a.g0, .int .u16 a.g1, .int .u16 a.g2, .int .u16 a.g3, .int .u16 a.g4, .int .u16 a.g5, .int .u16 a.g6, .int .u16 a.g7, .int .i64 a.p] := p28
      obtain ⟨qa29, qc29, rfl, hQ29⟩ := p29
      obtain rfl : v30 = .bool true := p30
      obtain rfl : v31 = .bool true := p31
      obtain rfl : v32 = .bool true := p32
      obtain rfl : v33 = .bool true := p33
      obtain rfl : v34 = .bool true := p34
      obtain rfl : v35 = .bool true := p35
      obtain rfl : v36 = .agg #[.int .i8 a.f, .int .u16 a.g0, .int .u16 a.g1, .int .u16 a.g2, .int .u16 a.g3, .int .u16 a.g4, .int .u16 a.g5, .int .u16 a.g6, .int .u16 a.g7, .int .i64 a.p] := p36
      obtain rfl : v37 = .agg #[.int .i8 a.f, .int .u16 a.g0, .int .u16 a.g1, .int .u16 a.g2, .int .u16 a.g3, .int .u16 a.g4, .int .u16 a.g5, .int .u16 a.g6, .int .u16 a.g7, .int .i64 a.p] := p37
      obtain rfl : v38 = .bool true := p38
      obtain rfl : v39 = .bool true := p39
      obtain rfl : v40 = .bool true := p40
      have ha := ByOps.act_eq [(22, .slice (some ⟨b3, o3, none⟩) L3.length qc9), (23, .int .i64 (L3.length : Int)), (24, .bool true), (25, .bool true), (26, .slice (some ⟨b3, o3, none⟩) L3.length qc9), (27, .pointer (some ⟨b3, o3, none⟩)), (28, .agg #[.int .i8 b.f, .int .u16 b.g0, .int .u16 b.g1, .int .u16 b.g2, .int .u16 b.g3, .int .u16 b.g4, .int .u16 b.g5, .int .u16 b.g6, .int .u16 b.g7, .int .i64 b.p, .int .i64 4]), (29, .agg #[.int .i8 b.f, .int .u16 b.g0, .int .u16 b.g1, .int .u16 b.g2, .int .u16 b.g3, .int .u16 b.g4, .int .u16 b.g5, .int .u16 b.g6, .int .u16 b.g7, .int .i64 b.p]), (30, .agg #[.int .i8 b.f, .int .u16 b.g0, .int .u16 b.g1, .int .u16 b.g2, .int .u16 b.g3, .int .u16 b.g4, .int .u16 b.g5, .int .u16 b.g6, .int .u16 b.g7, .int .i64 b.p, .int .i64 4]), (31, .bool true), (32, .bool true), (33, .bool true), (34, .slice (some ⟨b3, o3, none⟩) L3.length qc9), (35, .pointer (some ⟨b3, o3 + 11, none⟩)), (36, .agg #[.int .i8 a.f, .int .u16 a.g0, .int .u16 a.g1, .int .u16 a.g2, .int .u16 a.g3, .int .u16 a.g4, .int .u16 a.g5, .int .u16 a.g6, .int .u16 a.g7, .int .i64 a.p, .int .i64 5]), (37, .agg #[.int .i8 a.f, .int .u16 a.g0, .int .u16 a.g1, .int .u16 a.g2, .int .u16 a.g3, .int .u16 a.g4, .int .u16 a.g5, .int .u16 a.g6, .int .u16 a.g7, .int .i64 a.p]), (38, .agg #[.int .i8 a.f, .int .u16 a.g0, .int .u16 a.g1, .int .u16 a.g2, .int .u16 a.g3, .int .u16 a.g4, .int .u16 a.g5, .int .u16 a.g6, .int .u16 a.g7, .int .i64 a.p, .int .i64 5]), (39, .bool true), (40, .bool true), (41, .bool true), (42, .slice (some ⟨b3, o3, none⟩) L3.length qc9), (43, .agg #[.int .i8 a.f, .int .u16 a.g0, .int .u16 a.g1, .int .u16 a.g2, .int .u16 a.g3, .int .u16 a.g4, .int .u16 a.g5, .int .u16 a.g6, .int .u16 a.g7, .int .i64 a.p]), (44, .slice qa22 ([a] : List Ad).length qc22), (45, .bool false), (46, .bool true), (47, .bool true), (48, .bool true), (49, .slice (some ⟨b3, o3, none⟩) L3.length qc9), (50, .agg #[.int .i8 a.f, .int .u16 a.g0, .int .u16 a.g1, .int .u16 a.g2, .int .u16 a.g3, .int .u16 a.g4, .int .u16 a.g5, .int .u16 a.g6, .int .u16 a.g7, .int .i64 a.p]), (51, .slice qa29 ([a] : List Ad).length qc29), (52, .bool true), (53, .bool true), (54, .bool true), (55, .bool true), (56, .bool true), (57, .bool true), (58, .agg #[.int .i8 a.f, .int .u16 a.g0, .int .u16 a.g1, .int .u16 a.g2, .int .u16 a.g3, .int .u16 a.g4, .int .u16 a.g5, .int .u16 a.g6, .int .u16 a.g7, .int .i64 a.p]), (59, .agg #[.int .i8 a.f, .int .u16 a.g0, .int .u16 a.g1, .int .u16 a.g2, .int .u16 a.g3, .int .u16 a.g4, .int .u16 a.g5, .int .u16 a.g6, .int .u16 a.g7, .int .i64 a.p]), (60, .bool true), (61, .bool true), (0, .bool true)] a9 _ hd9 hs9 (fun t ht => ho9 t (ByOps.outer_of (ts := [22, 23, 24, 25, 26, 27, 28, 29, 30, 31, 32, 33, 34, 35, 36, 37, 38, 39, 40, 41, 42, 43, 44, 45, 46, 47, 48, 49, 50, 51, 52, 53, 54, 55, 56, 57, 58, 59, 60, 61, 0]) rfl ht)) (by intro p hp; simp only [List.mem_cons, List.not_mem_nil, or_false] at hp; rcases hp with rfl | rfl | rfl | rfl | rfl | rfl | rfl | rfl | rfl | rfl | rfl | rfl | rfl | rfl | rfl | rfl | rfl | rfl | rfl | rfl | rfl | rfl | rfl | rfl | rfl | rfl | rfl | rfl | rfl | rfl | rfl | rfl | rfl | rfl | rfl | rfl | rfl | rfl | rfl | rfl | rfl <;> assumption)
      rw [ha]
      clear ha hn9 ho9 hs9 hd9 e0 e1 e2 e3 e4 e5 e6 e7 e8 e9 e10 e11 e12 e13 e14 e15 e16 e17 e18 e19 e20 e21 e22 e23 e24 e25 e26 e27 e28 e29 e30 e31 e32 e33 e34 e35 e36 e37 e38 e39 e40
      simp only [List.foldl, Act.put, List.setIfInBounds_toArray, List.set_cons_zero, List.set_cons_succ]
      have hb9 : Below q2.heap.size q2 w9 := ⟨hB9.os, hB9.tape, hB9.output, hB9.size, hB9.block⟩
      clear hB9
      have hbf := HB.out.trans (hb9.mono HB.out.size)
      go_wp2_with fail
      go_ret
      exact ⟨rfl, hbf⟩
end Go.Proofs.Ytipbkhbdnjhofaa
