/- What the document says of five addresses. -/
import Derived.Test.YtcihcdifjnobjaaLawB
set_option linter.unusedSimpArgs false
set_option linter.unusedVariables false
namespace Go.Proofs.Ytcihcdifjnobjaa
open Go.RowKit Go.Proofs.Ytcihcdifjnobjaa.Kind

def ofA (fs : List Int) (k : Nat) : List Ad := (List.range k).map (fun j => ⟨fs.getD j 0, 0, 0, 0, 0, 0, 0, 0, 0, (j : Int) + 1⟩)
theorem ofA_step {fs : List Int} {k : Nat} {x : Int} (hx : fs[k]? = some x) : ofA fs (k + 1) = ofA fs k ++ [⟨x, 0, 0, 0, 0, 0, 0, 0, 0, (k : Int) + 1⟩] := by
  unfold ofA
  rw [List.range_succ, List.map_append]
  simp [hx]
theorem ofA_len (fs : List Int) (k : Nat) : (ofA fs k).length = k := by simp [ofA]
theorem jone {w : World} {b o : Nat} {l : List Int} (h : JK.At w b o l) {j : Nat} {x : Int} (hx : l[j]? = some x) : w.cell? ⟨b, o + j, none⟩ = some (.int .i8 x) := by
  have h1 := h j x hx 0 _ rfl
  rwa [show o + j * JK.k + 0 = o + j by show o + j * 1 + 0 = _; omega] at h1
set_option maxHeartbeats 40000000 in
set_option maxRecDepth 1000000 in
theorem of_any (fs : List Int) (s : Option Addr) (c : Nat) (w : World) (hl : fs.length ≤ 1000) (hR : JK.RowC w s c fs) :
    Calls Try.prog 22 #[.slice s fs.length c] w fun e w' => ∃ a1 c1, e = .returned (.slice a1 (ofA fs fs.length).length c1) ∧ AK.RowC w' a1 c1 (ofA fs fs.length) ∧ Below w.heap.size w w' := by
  have HR := Lib.hid hR
  clear hR
  go_enter Try.func22, Try.ntmps22
  go_wp2_with fail
  go_loopw [3, 4] (fun o i wr => ∃ (k m c1 : Nat) (a1 : Option Addr), o = .slice a1 m c1 ∧ i = .int .i64 k ∧ k ≤ fs.length ∧ m ≤ k ∧ Hid (m = (ofA fs k).length) ∧ Hid (AK.Own wr w.heap.size (.slice a1 m c1) (ofA fs k)) ∧ Hid (Below w.heap.size w wr)) (fun _ i _ => fs.length - (intOf i).toNat)
  case atStart => exact ⟨0, 0, 0, none, rfl, rfl, by omega, by omega, Lib.hid rfl, Lib.hid (own_nil _ _), Lib.hid (Below.refl _ _)⟩
  case round =>
    obtain ⟨k, m, c1, a1, rfl, rfl, hk, hmk, hm, hO, hB⟩ := hrel
    obtain ⟨K, hK⟩ : ∃ K, K = ofA fs k := ⟨_, rfl⟩
    have HM := Lib.hid hm.out
    have HO := Lib.hid hO.out
    have HB := Lib.hid hB.out
    have hsz := HB.out.size
    rw [← hK] at HM HO
    clear hO hB hm
    by_cases hlt : k < fs.length
    · obtain ⟨b, o, rfl, hb, hat⟩ := HR.out.2.2.2 (by omega)
      obtain ⟨x, hx⟩ : ∃ x, fs[k]? = some x := ⟨_, List.getElem?_eq_getElem hlt⟩
      have hki : (k : Int) < (fs.length : Int) := by omega
      have HS := Lib.hid (show ofA fs (k + 1) = K ++ [⟨x, 0, 0, 0, 0, 0, 0, 0, 0, (k : Int) + 1⟩] by rw [hK]; exact ofA_step hx)
      have f0 := jone (hat.below HB.out hb) hx
      have HL := Lib.hid (ofA_len fs (k + 1))
      clear hat hx hK
      go_wp2_with (at_builtin; refine AK.wpList_append_owned rfl _ _ rfl w.heap.size (.slice a1 m c1) rfl K (HO.out.below (below1 wr _) (Nat.le_refl _)) (some ⟨wr.heap.size, 0, none⟩) 1 1 rfl [⟨x, 0, 0, 0, 0, 0, 0, 0, 0, (k : Int) + 1⟩] rfl (rowC_at (K := AK) wr 27 [⟨x, 0, 0, 0, 0, 0, 0, 0, 0, (k : Int) + 1⟩] _ _ 1 rfl rfl rfl (by simp)) (by have := HM.out; simp; omega) (by simp; omega) (ofA fs (k + 1)) HS.out ?_; intro a2 c2 w2 hO2 hG2; have HO2 := Lib.hid hO2; have HB4 := Lib.hid ((HB.out.trans ((below1 wr (.cells #[.int .i8 x, .int .u16 0, .int .u16 0, .int .u16 0, .int .u16 0, .int .u16 0, .int .u16 0, .int .u16 0, .int .u16 0, .int .i64 ((k : Int) + 1)] 27)).mono hsz)).grown hG2 (by simp; omega) (fun j hj => (HO.out.lt j hj).1)); clear hO2 hG2)
      exact ⟨⟨k + 1, _, c2, a2, rfl, by go_num, by omega, by have := HL.out; omega, Lib.hid rfl, HO2, HB4⟩, by simp [intOf]; omega⟩
    · obtain rfl : k = fs.length := by omega
      have hm := HM.out
      have hO := HO.out
      rw [hK] at hm hO
      go_wp2_with fail
      go_ret
      exact ⟨a1, c1, by rw [← hm]; rfl, hO.row, HB.out⟩
set_option maxHeartbeats 40000000 in
set_option maxRecDepth 1000000 in
theorem wakes_walk (HLi : ListSpec) (HFi : FirstSpec) (HPl : PlaceSpec) : WakesSpec := by
  intro w
  have HLi := Lib.hid (fun l bad s v c d L w h h1 h2 h3 h4 => HLi l bad s v c d L w h h1 h2 h3 h4)
  have HFi := Lib.hid (fun n l s c L w h h1 h2 => HFi n l s c L w h h1 h2)
  have HPl := Lib.hid (fun l a s c r w h h1 h2 => HPl l a s c r w h h1 h2)
  have HB := Lib.hid (Below.refl w.heap.size w)
  obtain ⟨x0, hx0⟩ : ∃ x : Ad, x = ⟨4, 0, 0, 0, 0, 0, 0, 0, 0, 1⟩ := ⟨_, rfl⟩
  obtain ⟨x1, hx1⟩ : ∃ x : Ad, x = ⟨4, 0, 0, 0, 0, 0, 0, 0, 0, 2⟩ := ⟨_, rfl⟩
  obtain ⟨x2, hx2⟩ : ∃ x : Ad, x = ⟨6, 0, 0, 0, 0, 0, 0, 0, 0, 3⟩ := ⟨_, rfl⟩
  obtain ⟨x3, hx3⟩ : ∃ x : Ad, x = ⟨6, 0, 0, 0, 0, 0, 0, 0, 0, 4⟩ := ⟨_, rfl⟩
  obtain ⟨x4, hx4⟩ : ∃ x : Ad, x = ⟨4, 0, 0, 0, 0, 0, 0, 0, 0, 5⟩ := ⟨_, rfl⟩
  obtain ⟨L0, hL0⟩ : ∃ L : List Ad, L = [x0, x1, x2, x3, x4] := ⟨_, rfl⟩
  obtain ⟨L1, hL1⟩ : ∃ L : List Ad, L = [x0, x2, x1, x3, x4] := ⟨_, rfl⟩
  obtain ⟨L2, hL2⟩ : ∃ L : List Ad, L = [x1, x2, x4, x3, x0] := ⟨_, rfl⟩
  obtain ⟨L4, hL4⟩ : ∃ L : List Ad, L = [x0, x2] := ⟨_, rfl⟩
  have h0 : ofA [4, 4, 6, 6, 4] ([4, 4, 6, 6, 4] : List Int).length = L0 := by subst hL0 hL1 hL2 hL4 hx0 hx1 hx2 hx3 hx4; decide
  have h1 : L1 = Turn.list famA L0 [] := by subst hL0 hL1 hL2 hL4 hx0 hx1 hx2 hx3 hx4; decide
  have h2 : L2 = Turn.list famA L0 [x0] := by subst hL0 hL1 hL2 hL4 hx0 hx1 hx2 hx3 hx4; decide
  have h3 : L4 = firstZ 2 L1 := by subst hL0 hL1 hL2 hL4 hx0 hx1 hx2 hx3 hx4; decide
  have h4 : (2 : Int) = placeZ L1 x1 := by subst hL0 hL1 hL2 hL4 hx0 hx1 hx2 hx3 hx4; decide
  have HK0 := Lib.hid (show OkL L0 by subst hL0 hL1 hL2 hL4 hx0 hx1 hx2 hx3 hx4; unfold OkL okA; decide)
  have HK1 := Lib.hid (show OkL [x0] by subst hL0 hL1 hL2 hL4 hx0 hx1 hx2 hx3 hx4; unfold OkL okA; decide)
  have n0 : L0.length = 5 := by rw [hL0]; rfl
  have n1 : L1.length = 5 := by rw [hL1]; rfl
  have n4 : L4.length = 2 := by rw [hL4]; rfl
  have e0 : L0[0]? = some x0 := by rw [hL0]; rfl
  have e1 : L0[1]? = some x1 := by rw [hL0]; rfl
  have e2 : L0[2]? = some x2 := by rw [hL0]; rfl
  have e3 : L0[3]? = some x3 := by rw [hL0]; rfl
  have e4 : L0[4]? = some x4 := by rw [hL0]; rfl
  have hn2 : ((L4.length : Int) == 2) = true := by rw [n4]; rfl
  have i0 : (0 : Int) < (L0.length : Int) := by rw [n0]; omega
  have j0 : 0 < L0.length := by rw [n0]; omega
  have i1 : (1 : Int) < (L0.length : Int) := by rw [n0]; omega
  have j1 : 1 < L0.length := by rw [n0]; omega
  have i2 : (2 : Int) < (L0.length : Int) := by rw [n0]; omega
  have j2 : 2 < L0.length := by rw [n0]; omega
  have i3 : (3 : Int) < (L0.length : Int) := by rw [n0]; omega
  have j3 : 3 < L0.length := by rw [n0]; omega
  have i4 : (4 : Int) < (L0.length : Int) := by rw [n0]; omega
  have j4 : 4 < L0.length := by rw [n0]; omega
  replace h0 := Lib.hid h0
  replace h1 := Lib.hid h1
  replace h2 := Lib.hid h2
  replace h3 := Lib.hid h3
  replace h4 := Lib.hid h4
  replace n0 := Lib.hid n0
  replace n1 := Lib.hid n1
  replace n4 := Lib.hid n4
  replace e0 := Lib.hid e0
  replace e1 := Lib.hid e1
  replace e2 := Lib.hid e2
  replace e3 := Lib.hid e3
  replace e4 := Lib.hid e4
  replace hL1 := Lib.hid hL1
  replace hL2 := Lib.hid hL2
  clear hL0 hL4 hx0 hx1 hx2 hx3 hx4
  go_enter Try.func10, Try.ntmps10
  have HX := of_any [4, 4, 6, 6, 4] (some ⟨w.heap.size, 0, none⟩) 5 (w.alloc (.cells #[.int .i8 4, .int .i8 4, .int .i8 6, .int .i8 6, .int .i8 4] 23)) (by simp) (rowC_at (K := JK) w 23 [4, 4, 6, 6, 4] #[.int .i8 4, .int .i8 4, .int .i8 6, .int .i8 6, .int .i8 4] w.heap.size 5 rfl rfl rfl (by simp))
  rw [h0.out] at HX
  simp only [List.length_cons, List.length_nil, Nat.zero_add, Nat.reduceAdd] at HX
  replace HX := Lib.hid HX
  go_wp2_with fail
  with_reducible refine HX.out.mono ?_
  rintro e w1 ⟨a1, c1, rfl, hR, hb⟩
  clear HX
  replace hb := (below1 w (.cells #[.int .i8 4, .int .i8 4, .int .i8 6, .int .i8 6, .int .i8 4] 23)).trans (hb.mono (below1 w (.cells #[.int .i8 4, .int .i8 4, .int .i8 6, .int .i8 6, .int .i8 4] 23)).size)
  have Hl := Lib.hid hR
  clear hR
  replace HB := Lib.hid (HB.out.trans (hb.mono HB.out.size))
  clear hb
  obtain ⟨b2, o2, rfl, hbl, hat⟩ := Hl.out.2.2.2 (by rw [n0.out]; omega)
  have HC0 := Lib.hid (fun (W : World) (h : Below w1.heap.size w1 W) => AK.ten (hat.below h hbl) e0.out)
  have HC1 := Lib.hid (fun (W : World) (h : Below w1.heap.size w1 W) => AK.ten (hat.below h hbl) e1.out)
  have HC2 := Lib.hid (fun (W : World) (h : Below w1.heap.size w1 W) => AK.ten (hat.below h hbl) e2.out)
  have HC3 := Lib.hid (fun (W : World) (h : Below w1.heap.size w1 W) => AK.ten (hat.below h hbl) e3.out)
  have HC4 := Lib.hid (fun (W : World) (h : Below w1.heap.size w1 W) => AK.ten (hat.below h hbl) e4.out)
  clear hat hbl
  go_upto_region 2 with fail
  refine ByOps.region_by_sk (by kernel_rfl) (ByOps.facts [.val (.slice (some ⟨b2, o2, none⟩) L0.length c1), rowA (L1), .val (.slice (some ⟨b2, o2, none⟩) L0.length c1), .val (.slice (some ⟨b2, o2, none⟩) L0.length c1), .val (.pointer (some ⟨b2, o2, none⟩)), .val (.agg #[.int .i8 x0.f, .int .u16 x0.g0, .int .u16 x0.g1, .int .u16 x0.g2, .int .u16 x0.g3, .int .u16 x0.g4, .int .u16 x0.g5, .int .u16 x0.g6, .int .u16 x0.g7, .int .i64 x0.p]), rowA ([x0]), rowA (L2), rowA (L1), rowA (L2)]) (ByOps.facts_up _) (by kernel_rfl) (fun _ => false) (ByOps.all_ops ?_) (ByOps.all_ops ?_) (ByOps.all_ops ?_) ?_
  · refine ⟨?_, ?_, ?_, ?_, ?_, ?_, ?_, ?_, ?_, ?_, trivial⟩
    · intro _ ρ w9 hB hs
      have hBB : Below w1.heap.size w1 w9 := ⟨hB.os, hB.tape, hB.output, hB.size, hB.block⟩
      have h1 : ρ (.tmp 1) = .slice (some ⟨b2, o2, none⟩) L0.length c1 := (hs _ (by simp [Op.operands, Call.operands])).2 (fun t ht => by cases ht; kernel_rfl)
      exact ByOps.runs_value (by first | rfl | go_simp) (Below.refl _ _) h1
    · intro _ ρ w9 hB hs
      have hBB : Below w1.heap.size w1 w9 := ⟨hB.os, hB.tape, hB.output, hB.size, hB.block⟩
      have h6 : ρ (.tmp 6) = .slice (some ⟨b2, o2, none⟩) L0.length c1 := (hs (.tmp 6) (by simp [Op.operands, Call.operands])).1 6 rfl 0 _ rfl rfl
      have hk1 : ρ (.const (.slice none 0 0)) = .slice none 0 0 := (hs _ (by simp [Op.operands, Call.operands])).2 (fun t ht => by cases ht)
      have hfn : ρ (.func 16) = .func (.func 16) #[] #[] := (hs _ (by simp [Op.operands, Call.operands])).2 (fun t ht => by cases ht)
      refine ByOps.runs_enter (f := 16) (args := #[.slice (some ⟨b2, o2, none⟩) L0.length c1, .slice none 0 0]) (by go_simp) ?_
      exact (HLi.out L0 [] (some ⟨b2, o2, none⟩) none c1 0 L1 w9 ⟨h1.out, HK0.out, okL_nil⟩ (by rw [n0.out]; omega) (by simp) (Hl.out.below hBB) (row_none _)).mono fun e w2 ⟨a1, c1, he, hR, hb⟩ => ⟨_, he, hb, a1, c1, rfl, hR⟩
    · intro _ ρ w9 hB hs
      have hBB : Below w1.heap.size w1 w9 := ⟨hB.os, hB.tape, hB.output, hB.size, hB.block⟩
      have h1 : ρ (.tmp 1) = .slice (some ⟨b2, o2, none⟩) L0.length c1 := (hs _ (by simp [Op.operands, Call.operands])).2 (fun t ht => by cases ht; kernel_rfl)
      exact ByOps.runs_value (by first | rfl | go_simp) (Below.refl _ _) h1
    · intro _ ρ w9 hB hs
      have hBB : Below w1.heap.size w1 w9 := ⟨hB.os, hB.tape, hB.output, hB.size, hB.block⟩
      have h1 : ρ (.tmp 1) = .slice (some ⟨b2, o2, none⟩) L0.length c1 := (hs _ (by simp [Op.operands, Call.operands])).2 (fun t ht => by cases ht; kernel_rfl)
      exact ByOps.runs_value (by first | rfl | go_simp) (Below.refl _ _) h1
    · intro _ ρ w9 hB hs
      have hBB : Below w1.heap.size w1 w9 := ⟨hB.os, hB.tape, hB.output, hB.size, hB.block⟩
      have h9 : ρ (.tmp 9) = .slice (some ⟨b2, o2, none⟩) L0.length c1 := (hs (.tmp 9) (by simp [Op.operands, Call.operands])).1 9 rfl 3 _ rfl rfl
      have hk : ρ (.const (.int .i64 0)) = .int .i64 0 := (hs _ (by simp [Op.operands, Call.operands])).2 (fun t ht => by cases ht)
      exact ByOps.runs_value (v := .pointer (some ⟨b2, o2, none⟩)) (by first | rfl | go_simp) (Below.refl _ _) rfl
    · intro _ ρ w9 hB hs
      have hBB : Below w1.heap.size w1 w9 := ⟨hB.os, hB.tape, hB.output, hB.size, hB.block⟩
      have h10 : ρ (.tmp 10) = .pointer (some ⟨b2, o2, none⟩) := (hs (.tmp 10) (by simp [Op.operands, Call.operands])).1 10 rfl 4 _ rfl rfl
      obtain ⟨⟨d0, d1, d2, d3, d4⟩, d5, d6, d7, d8, d9⟩ := HC0.out w9 hBB
      simp only [Nat.zero_mul, Nat.add_zero, Nat.one_mul, Nat.reduceMul] at d0 d1 d2 d3 d4 d5 d6 d7 d8 d9
      exact ByOps.runs_value (v := .agg #[.int .i8 x0.f, .int .u16 x0.g0, .int .u16 x0.g1, .int .u16 x0.g2, .int .u16 x0.g3, .int .u16 x0.g4, .int .u16 x0.g5, .int .u16 x0.g6, .int .u16 x0.g7, .int .i64 x0.p]) (by first | rfl | go_simp) (Below.refl _ _) rfl
    · intro _ ρ w9 hB hs
      have hBB : Below w1.heap.size w1 w9 := ⟨hB.os, hB.tape, hB.output, hB.size, hB.block⟩
      have h11 : ρ (.tmp 11) = .agg #[.int .i8 x0.f, .int .u16 x0.g0, .int .u16 x0.g1, .int .u16 x0.g2, .int .u16 x0.g3, .int .u16 x0.g4, .int .u16 x0.g5, .int .u16 x0.g6, .int .u16 x0.g7, .int .i64 x0.p] := (hs (.tmp 11) (by simp [Op.operands, Call.operands])).1 11 rfl 5 _ rfl rfl
      exact ByOps.runs_value (v := .slice (some ⟨w9.heap.size, 0, none⟩) 1 1) (w' := w9.alloc (.cells #[.int .i8 x0.f, .int .u16 x0.g0, .int .u16 x0.g1, .int .u16 x0.g2, .int .u16 x0.g3, .int .u16 x0.g4, .int .u16 x0.g5, .int .u16 x0.g6, .int .u16 x0.g7, .int .i64 x0.p] 27)) (by go_simp) (below1 _ _) ⟨some ⟨w9.heap.size, 0, none⟩, 1, rfl, rowC_at (K := AK) w9 27 [x0] #[.int .i8 x0.f, .int .u16 x0.g0, .int .u16 x0.g1, .int .u16 x0.g2, .int .u16 x0.g3, .int .u16 x0.g4, .int .u16 x0.g5, .int .u16 x0.g6, .int .u16 x0.g7, .int .i64 x0.p] w9.heap.size 1 rfl rfl rfl (by simp)⟩
    · intro _ ρ w9 hB hs
      have hBB : Below w1.heap.size w1 w9 := ⟨hB.os, hB.tape, hB.output, hB.size, hB.block⟩
      have h8 : ρ (.tmp 8) = .slice (some ⟨b2, o2, none⟩) L0.length c1 := (hs (.tmp 8) (by simp [Op.operands, Call.operands])).1 8 rfl 2 _ rfl rfl
      have h12 : ∃ a1 c1, ρ (.tmp 12) = .slice a1 ([x0] : List Ad).length c1 ∧ AK.RowC w9 a1 c1 ([x0]) := (hs (.tmp 12) (by simp [Op.operands, Call.operands])).1 12 rfl 6 _ rfl rfl
      obtain ⟨ra12, rc12, h12, hR12⟩ := h12
      have hfn : ρ (.func 16) = .func (.func 16) #[] #[] := (hs _ (by simp [Op.operands, Call.operands])).2 (fun t ht => by cases ht)
      refine ByOps.runs_enter (f := 16) (args := #[.slice (some ⟨b2, o2, none⟩) L0.length c1, .slice ra12 ([x0] : List Ad).length rc12]) (by go_simp) ?_
      exact (HLi.out L0 [x0] (some ⟨b2, o2, none⟩) ra12 c1 rc12 L2 w9 ⟨h2.out, HK0.out, HK1.out⟩ (by rw [n0.out]; omega) (by simp) (Hl.out.below hBB) hR12).mono fun e w2 ⟨a1, c1, he, hR, hb⟩ => ⟨_, he, hb, a1, c1, rfl, hR⟩
    · intro _ ρ w9 hB hs
      have hBB : Below w1.heap.size w1 w9 := ⟨hB.os, hB.tape, hB.output, hB.size, hB.block⟩
      have h7 : ∃ a1 c1, ρ (.tmp 7) = .slice a1 (L1 : List Ad).length c1 ∧ AK.RowC w9 a1 c1 (L1) := (hs (.tmp 7) (by simp [Op.operands, Call.operands])).1 7 rfl 1 _ rfl rfl
      obtain ⟨ra7, rc7, h7, hR7⟩ := h7
      exact ByOps.runs_value (v := .slice ra7 (L1 : List Ad).length rc7) (by first | rfl | go_simp) (Below.refl _ _) ⟨_, _, rfl, hR7⟩
    · intro _ ρ w9 hB hs
      have hBB : Below w1.heap.size w1 w9 := ⟨hB.os, hB.tape, hB.output, hB.size, hB.block⟩
      have h13 : ∃ a1 c1, ρ (.tmp 13) = .slice a1 (L2 : List Ad).length c1 ∧ AK.RowC w9 a1 c1 (L2) := (hs (.tmp 13) (by simp [Op.operands, Call.operands])).1 13 rfl 7 _ rfl rfl
      obtain ⟨ra13, rc13, h13, hR13⟩ := h13
      exact ByOps.runs_value (v := .slice ra13 (L2 : List Ad).length rc13) (by first | rfl | go_simp) (Below.refl _ _) ⟨_, _, rfl, hR13⟩
  · refine ⟨?_, ?_, ?_, ?_, ?_, ?_, ?_, ?_, ?_, ?_, trivial⟩
    all_goals first | (intro hs0; cases hs0; done) | (intro _; exact ⟨by simp, fun _ => rfl⟩)
  · refine ⟨?_, ?_, ?_, ?_, ?_, ?_, ?_, ?_, ?_, ?_, trivial⟩
    all_goals first | (intro g b h; cases h; done) | (intro g b h; cases h; intro v w h; exact ⟨fun h0 => (by first | exact h | cases h0), fun h0 => (by first | cases h0; done | exact .inl h | exact .inr h)⟩)
  · intro a9 w7 hd9 hs9 ho9 hn9 hB9
    obtain ⟨v0, e0, p0⟩ := hn9 0 _ 6 rfl rfl
    obtain ⟨v1, e1, p1⟩ := hn9 1 _ 7 rfl rfl
    obtain ⟨v2, e2, p2⟩ := hn9 2 _ 8 rfl rfl
    obtain ⟨v3, e3, p3⟩ := hn9 3 _ 9 rfl rfl
    obtain ⟨v4, e4, p4⟩ := hn9 4 _ 10 rfl rfl
    obtain ⟨v5, e5, p5⟩ := hn9 5 _ 11 rfl rfl
    obtain ⟨v6, e6, p6⟩ := hn9 6 _ 12 rfl rfl
    obtain ⟨v7, e7, p7⟩ := hn9 7 _ 13 rfl rfl
    obtain ⟨v8, e8, p8⟩ := hn9 8 _ 2 rfl rfl
    obtain ⟨v9, e9, p9⟩ := hn9 9 _ 3 rfl rfl
    obtain rfl : v0 = .slice (some ⟨b2, o2, none⟩) L0.length c1 := p0
    obtain ⟨qa1, qc1, rfl, hQ1⟩ := p1
    obtain rfl : v2 = .slice (some ⟨b2, o2, none⟩) L0.length c1 := p2
    obtain rfl : v3 = .slice (some ⟨b2, o2, none⟩) L0.length c1 := p3
    obtain rfl : v4 = .pointer (some ⟨b2, o2, none⟩) := p4
    obtain rfl : v5 = .agg #[.int .i8 x0.f, .int .u16 x0.g0, .int .u16 x0.g1, .int .u16 x0.g2, .int .u16 x0.g3, .int .u16 x0.g4, .int .u16 x0.g5, .int .u16 x0.g6, .int .u16 x0.g7, .int .i64 x0.p] := p5
    obtain ⟨qa6, qc6, rfl, hQ6⟩ := p6
    obtain ⟨qa7, qc7, rfl, hQ7⟩ := p7
    obtain ⟨qa8, qc8, rfl, hQ8⟩ := p8
    obtain ⟨qa9, qc9, rfl, hQ9⟩ := p9
    have ha := ByOps.act_eq [(6, .slice (some ⟨b2, o2, none⟩) L0.length c1), (7, .slice qa1 (L1 : List Ad).length qc1), (8, .slice (some ⟨b2, o2, none⟩) L0.length c1), (9, .slice (some ⟨b2, o2, none⟩) L0.length c1), (10, .pointer (some ⟨b2, o2, none⟩)), (11, .agg #[.int .i8 x0.f, .int .u16 x0.g0, .int .u16 x0.g1, .int .u16 x0.g2, .int .u16 x0.g3, .int .u16 x0.g4, .int .u16 x0.g5, .int .u16 x0.g6, .int .u16 x0.g7, .int .i64 x0.p]), (12, .slice qa6 ([x0] : List Ad).length qc6), (13, .slice qa7 (L2 : List Ad).length qc7), (2, .slice qa8 (L1 : List Ad).length qc8), (3, .slice qa9 (L2 : List Ad).length qc9)] a9 _ hd9 hs9 (fun t ht => ho9 t (ByOps.outer_of (ts := [6, 7, 8, 9, 10, 11, 12, 13, 2, 3]) rfl ht)) (by intro p hp; simp only [List.mem_cons, List.not_mem_nil, or_false] at hp; rcases hp with rfl | rfl | rfl | rfl | rfl | rfl | rfl | rfl | rfl | rfl <;> assumption)
    rw [ha]
    clear ha hn9 ho9 hs9 hd9 e0 e1 e2 e3 e4 e5 e6 e7 e8 e9
    simp only [List.foldl, Act.put, List.setIfInBounds_toArray, List.set_cons_zero, List.set_cons_succ]
    have hb9 : Below w1.heap.size w1 w7 := ⟨hB9.os, hB9.tape, hB9.output, hB9.size, hB9.block⟩
    clear hB9
    have hb := hb9
    clear hb9
    have HA := Lib.hid hQ8
    have HP := Lib.hid hQ9
    clear hQ1 hQ6 hQ7 hQ8 hQ9 HC0 HC1 HC2 HC3 HC4
    replace Hl := Lib.hid (Hl.out.below hb)
    replace HB := Lib.hid (HB.out.trans (hb.mono HB.out.size))
    clear hb
    obtain ⟨b4, o4, hq4, hbl, hat⟩ := Hl.out.2.2.2 (by rw [n0.out]; omega)
    cases hq4
    have HC0 := Lib.hid (fun (W : World) (h : Below w7.heap.size w7 W) => AK.ten (hat.below h hbl) e0.out)
    have HC1 := Lib.hid (fun (W : World) (h : Below w7.heap.size w7 W) => AK.ten (hat.below h hbl) e1.out)
    have HC2 := Lib.hid (fun (W : World) (h : Below w7.heap.size w7 W) => AK.ten (hat.below h hbl) e2.out)
    have HC3 := Lib.hid (fun (W : World) (h : Below w7.heap.size w7 W) => AK.ten (hat.below h hbl) e3.out)
    have HC4 := Lib.hid (fun (W : World) (h : Below w7.heap.size w7 W) => AK.ten (hat.below h hbl) e4.out)
    clear hat hbl
    go_upto_region 3 with fail
    refine ByOps.region_by_sk (by kernel_rfl) (ByOps.facts [.val (.slice qa8 L1.length qc8), .val (.slice (some ⟨b2, o2, none⟩) L0.length c1), .val (.pointer (some ⟨b2, o2, none⟩)), .val (.agg #[.int .i8 x0.f, .int .u16 x0.g0, .int .u16 x0.g1, .int .u16 x0.g2, .int .u16 x0.g3, .int .u16 x0.g4, .int .u16 x0.g5, .int .u16 x0.g6, .int .u16 x0.g7, .int .i64 x0.p]), .val (.slice (some ⟨b2, o2, none⟩) L0.length c1), .val (.pointer (some ⟨b2, o2 + 20, none⟩)), .val (.agg #[.int .i8 x2.f, .int .u16 x2.g0, .int .u16 x2.g1, .int .u16 x2.g2, .int .u16 x2.g3, .int .u16 x2.g4, .int .u16 x2.g5, .int .u16 x2.g6, .int .u16 x2.g7, .int .i64 x2.p]), .val (.slice (some ⟨b2, o2, none⟩) L0.length c1), .val (.pointer (some ⟨b2, o2 + 10, none⟩)), .val (.agg #[.int .i8 x1.f, .int .u16 x1.g0, .int .u16 x1.g1, .int .u16 x1.g2, .int .u16 x1.g3, .int .u16 x1.g4, .int .u16 x1.g5, .int .u16 x1.g6, .int .u16 x1.g7, .int .i64 x1.p]), .val (.slice (some ⟨b2, o2, none⟩) L0.length c1), .val (.pointer (some ⟨b2, o2 + 30, none⟩)), .val (.agg #[.int .i8 x3.f, .int .u16 x3.g0, .int .u16 x3.g1, .int .u16 x3.g2, .int .u16 x3.g3, .int .u16 x3.g4, .int .u16 x3.g5, .int .u16 x3.g6, .int .u16 x3.g7, .int .i64 x3.p]), .val (.slice (some ⟨b2, o2, none⟩) L0.length c1), .val (.pointer (some ⟨b2, o2 + 40, none⟩)), .val (.agg #[.int .i8 x4.f, .int .u16 x4.g0, .int .u16 x4.g1, .int .u16 x4.g2, .int .u16 x4.g3, .int .u16 x4.g4, .int .u16 x4.g5, .int .u16 x4.g6, .int .u16 x4.g7, .int .i64 x4.p]), rowA ([x0, x2, x1, x3, x4]), .val (.bool true), .val (.bool true), .val (.slice qa9 L2.length qc9), .val (.slice (some ⟨b2, o2, none⟩) L0.length c1), .val (.pointer (some ⟨b2, o2 + 10, none⟩)), .val (.agg #[.int .i8 x1.f, .int .u16 x1.g0, .int .u16 x1.g1, .int .u16 x1.g2, .int .u16 x1.g3, .int .u16 x1.g4, .int .u16 x1.g5, .int .u16 x1.g6, .int .u16 x1.g7, .int .i64 x1.p]), .val (.slice (some ⟨b2, o2, none⟩) L0.length c1), .val (.pointer (some ⟨b2, o2 + 20, none⟩)), .val (.agg #[.int .i8 x2.f, .int .u16 x2.g0, .int .u16 x2.g1, .int .u16 x2.g2, .int .u16 x2.g3, .int .u16 x2.g4, .int .u16 x2.g5, .int .u16 x2.g6, .int .u16 x2.g7, .int .i64 x2.p]), .val (.slice (some ⟨b2, o2, none⟩) L0.length c1), .val (.pointer (some ⟨b2, o2 + 40, none⟩)), .val (.agg #[.int .i8 x4.f, .int .u16 x4.g0, .int .u16 x4.g1, .int .u16 x4.g2, .int .u16 x4.g3, .int .u16 x4.g4, .int .u16 x4.g5, .int .u16 x4.g6, .int .u16 x4.g7, .int .i64 x4.p]), .val (.slice (some ⟨b2, o2, none⟩) L0.length c1), .val (.pointer (some ⟨b2, o2 + 30, none⟩)), .val (.agg #[.int .i8 x3.f, .int .u16 x3.g0, .int .u16 x3.g1, .int .u16 x3.g2, .int .u16 x3.g3, .int .u16 x3.g4, .int .u16 x3.g5, .int .u16 x3.g6, .int .u16 x3.g7, .int .i64 x3.p]), .val (.slice (some ⟨b2, o2, none⟩) L0.length c1), .val (.pointer (some ⟨b2, o2, none⟩)), .val (.agg #[.int .i8 x0.f, .int .u16 x0.g0, .int .u16 x0.g1, .int .u16 x0.g2, .int .u16 x0.g3, .int .u16 x0.g4, .int .u16 x0.g5, .int .u16 x0.g6, .int .u16 x0.g7, .int .i64 x0.p]), rowA ([x1, x2, x4, x3, x0]), .val (.bool true), .val (.bool true), .val (.bool true), .val (.slice qa8 L1.length qc8), rowA (L4), .val (.int .i64 ((L4 : List Ad).length : Int)), .val (.bool true), .val (.bool true), .val (.bool true), .val (.slice qa8 L1.length qc8), .val (.slice (some ⟨b2, o2, none⟩) L0.length c1), .val (.pointer (some ⟨b2, o2 + 10, none⟩)), .val (.agg #[.int .i8 x1.f, .int .u16 x1.g0, .int .u16 x1.g1, .int .u16 x1.g2, .int .u16 x1.g3, .int .u16 x1.g4, .int .u16 x1.g5, .int .u16 x1.g6, .int .u16 x1.g7, .int .i64 x1.p]), .val (.int .i64 2), .val (.bool true), .val (.bool true), .val (.bool true)]) (ByOps.facts_up _) (by kernel_rfl) (fun _ => false) (ByOps.all_ops ?_) (ByOps.all_ops ?_) (ByOps.all_ops ?_) ?_
    · refine ⟨?_, ?_, ?_, ?_, ?_, ?_, ?_, ?_, ?_, ?_, ?_, ?_, ?_, ?_, ?_, ?_, ?_, ?_, ?_, ?_, ?_, ?_, ?_, ?_, ?_, ?_, ?_, ?_, ?_, ?_, ?_, ?_, ?_, ?_, ?_, ?_, ?_, ?_, ?_, ?_, ?_, ?_, ?_, ?_, ?_, ?_, ?_, ?_, ?_, ?_, ?_, ?_, ?_, trivial⟩
      · intro _ ρ w9 hB hs
        have hBB : Below w7.heap.size w7 w9 := ⟨hB.os, hB.tape, hB.output, hB.size, hB.block⟩
        have h2 : ρ (.tmp 2) = .slice qa8 L1.length qc8 := (hs _ (by simp [Op.operands, Call.operands])).2 (fun t ht => by cases ht; kernel_rfl)
        exact ByOps.runs_value (by first | rfl | go_simp) (Below.refl _ _) h2
      · intro _ ρ w9 hB hs
        have hBB : Below w7.heap.size w7 w9 := ⟨hB.os, hB.tape, hB.output, hB.size, hB.block⟩
        have h1 : ρ (.tmp 1) = .slice (some ⟨b2, o2, none⟩) L0.length c1 := (hs _ (by simp [Op.operands, Call.operands])).2 (fun t ht => by cases ht; kernel_rfl)
        exact ByOps.runs_value (by first | rfl | go_simp) (Below.refl _ _) h1
      · intro _ ρ w9 hB hs
        have hBB : Below w7.heap.size w7 w9 := ⟨hB.os, hB.tape, hB.output, hB.size, hB.block⟩
        have h15 : ρ (.tmp 15) = .slice (some ⟨b2, o2, none⟩) L0.length c1 := (hs (.tmp 15) (by simp [Op.operands, Call.operands])).1 15 rfl 1 _ rfl rfl
        have hk : ρ (.const (.int .i64 0)) = .int .i64 0 := (hs _ (by simp [Op.operands, Call.operands])).2 (fun t ht => by cases ht)
        exact ByOps.runs_value (v := .pointer (some ⟨b2, o2, none⟩)) (by first | rfl | go_simp) (Below.refl _ _) rfl
      · intro _ ρ w9 hB hs
        have hBB : Below w7.heap.size w7 w9 := ⟨hB.os, hB.tape, hB.output, hB.size, hB.block⟩
        have h16 : ρ (.tmp 16) = .pointer (some ⟨b2, o2, none⟩) := (hs (.tmp 16) (by simp [Op.operands, Call.operands])).1 16 rfl 2 _ rfl rfl
        obtain ⟨⟨d0, d1, d2, d3, d4⟩, d5, d6, d7, d8, d9⟩ := HC0.out w9 hBB
        simp only [Nat.zero_mul, Nat.add_zero, Nat.one_mul, Nat.reduceMul] at d0 d1 d2 d3 d4 d5 d6 d7 d8 d9
        exact ByOps.runs_value (v := .agg #[.int .i8 x0.f, .int .u16 x0.g0, .int .u16 x0.g1, .int .u16 x0.g2, .int .u16 x0.g3, .int .u16 x0.g4, .int .u16 x0.g5, .int .u16 x0.g6, .int .u16 x0.g7, .int .i64 x0.p]) (by first | rfl | go_simp) (Below.refl _ _) rfl
      · intro _ ρ w9 hB hs
        have hBB : Below w7.heap.size w7 w9 := ⟨hB.os, hB.tape, hB.output, hB.size, hB.block⟩
        have h1 : ρ (.tmp 1) = .slice (some ⟨b2, o2, none⟩) L0.length c1 := (hs _ (by simp [Op.operands, Call.operands])).2 (fun t ht => by cases ht; kernel_rfl)
        exact ByOps.runs_value (by first | rfl | go_simp) (Below.refl _ _) h1
      · intro _ ρ w9 hB hs
        have hBB : Below w7.heap.size w7 w9 := ⟨hB.os, hB.tape, hB.output, hB.size, hB.block⟩
        have h18 : ρ (.tmp 18) = .slice (some ⟨b2, o2, none⟩) L0.length c1 := (hs (.tmp 18) (by simp [Op.operands, Call.operands])).1 18 rfl 4 _ rfl rfl
        have hk : ρ (.const (.int .i64 2)) = .int .i64 2 := (hs _ (by simp [Op.operands, Call.operands])).2 (fun t ht => by cases ht)
        exact ByOps.runs_value (v := .pointer (some ⟨b2, o2 + 20, none⟩)) (by first | rfl | go_simp) (Below.refl _ _) rfl
      · intro _ ρ w9 hB hs
        have hBB : Below w7.heap.size w7 w9 := ⟨hB.os, hB.tape, hB.output, hB.size, hB.block⟩
        have h19 : ρ (.tmp 19) = .pointer (some ⟨b2, o2 + 20, none⟩) := (hs (.tmp 19) (by simp [Op.operands, Call.operands])).1 19 rfl 5 _ rfl rfl
        obtain ⟨⟨d0, d1, d2, d3, d4⟩, d5, d6, d7, d8, d9⟩ := HC2.out w9 hBB
        simp only [Nat.zero_mul, Nat.add_zero, Nat.one_mul, Nat.reduceMul] at d0 d1 d2 d3 d4 d5 d6 d7 d8 d9
        exact ByOps.runs_value (v := .agg #[.int .i8 x2.f, .int .u16 x2.g0, .int .u16 x2.g1, .int .u16 x2.g2, .int .u16 x2.g3, .int .u16 x2.g4, .int .u16 x2.g5, .int .u16 x2.g6, .int .u16 x2.g7, .int .i64 x2.p]) (by first | rfl | go_simp) (Below.refl _ _) rfl
      · intro _ ρ w9 hB hs
        have hBB : Below w7.heap.size w7 w9 := ⟨hB.os, hB.tape, hB.output, hB.size, hB.block⟩
        have h1 : ρ (.tmp 1) = .slice (some ⟨b2, o2, none⟩) L0.length c1 := (hs _ (by simp [Op.operands, Call.operands])).2 (fun t ht => by cases ht; kernel_rfl)
        exact ByOps.runs_value (by first | rfl | go_simp) (Below.refl _ _) h1
      · intro _ ρ w9 hB hs
        have hBB : Below w7.heap.size w7 w9 := ⟨hB.os, hB.tape, hB.output, hB.size, hB.block⟩
        have h21 : ρ (.tmp 21) = .slice (some ⟨b2, o2, none⟩) L0.length c1 := (hs (.tmp 21) (by simp [Op.operands, Call.operands])).1 21 rfl 7 _ rfl rfl
        have hk : ρ (.const (.int .i64 1)) = .int .i64 1 := (hs _ (by simp [Op.operands, Call.operands])).2 (fun t ht => by cases ht)
        exact ByOps.runs_value (v := .pointer (some ⟨b2, o2 + 10, none⟩)) (by first | rfl | go_simp) (Below.refl _ _) rfl
      · intro _ ρ w9 hB hs
        have hBB : Below w7.heap.size w7 w9 := ⟨hB.os, hB.tape, hB.output, hB.size, hB.block⟩
        have h22 : ρ (.tmp 22) = .pointer (some ⟨b2, o2 + 10, none⟩) := (hs (.tmp 22) (by simp [Op.operands, Call.operands])).1 22 rfl 8 _ rfl rfl
        obtain ⟨⟨d0, d1, d2, d3, d4⟩, d5, d6, d7, d8, d9⟩ := HC1.out w9 hBB
        simp only [Nat.zero_mul, Nat.add_zero, Nat.one_mul, Nat.reduceMul] at d0 d1 d2 d3 d4 d5 d6 d7 d8 d9
        exact ByOps.runs_value (v := .agg #[.int .i8 x1.f, .int .u16 x1.g0, .int .u16 x1.g1, .int .u16 x1.g2, .int .u16 x1.g3, .int .u16 x1.g4, .int .u16 x1.g5, .int .u16 x1.g6, .int .u16 x1.g7, .int .i64 x1.p]) (by first | rfl | go_simp) (Below.refl _ _) rfl
      · intro _ ρ w9 hB hs
        have hBB : Below w7.heap.size w7 w9 := ⟨hB.os, hB.tape, hB.output, hB.size, hB.block⟩
        have h1 : ρ (.tmp 1) = .slice (some ⟨b2, o2, none⟩) L0.length c1 := (hs _ (by simp [Op.operands, Call.operands])).2 (fun t ht => by cases ht; kernel_rfl)
        exact ByOps.runs_value (by first | rfl | go_simp) (Below.refl _ _) h1
      · intro _ ρ w9 hB hs
        have hBB : Below w7.heap.size w7 w9 := ⟨hB.os, hB.tape, hB.output, hB.size, hB.block⟩
        have h24 : ρ (.tmp 24) = .slice (some ⟨b2, o2, none⟩) L0.length c1 := (hs (.tmp 24) (by simp [Op.operands, Call.operands])).1 24 rfl 10 _ rfl rfl
        have hk : ρ (.const (.int .i64 3)) = .int .i64 3 := (hs _ (by simp [Op.operands, Call.operands])).2 (fun t ht => by cases ht)
        exact ByOps.runs_value (v := .pointer (some ⟨b2, o2 + 30, none⟩)) (by first | rfl | go_simp) (Below.refl _ _) rfl
      · intro _ ρ w9 hB hs
        have hBB : Below w7.heap.size w7 w9 := ⟨hB.os, hB.tape, hB.output, hB.size, hB.block⟩
        have h25 : ρ (.tmp 25) = .pointer (some ⟨b2, o2 + 30, none⟩) := (hs (.tmp 25) (by simp [Op.operands, Call.operands])).1 25 rfl 11 _ rfl rfl
        obtain ⟨⟨d0, d1, d2, d3, d4⟩, d5, d6, d7, d8, d9⟩ := HC3.out w9 hBB
        simp only [Nat.zero_mul, Nat.add_zero, Nat.one_mul, Nat.reduceMul] at d0 d1 d2 d3 d4 d5 d6 d7 d8 d9
        exact ByOps.runs_value (v := .agg #[.int .i8 x3.f, .int .u16 x3.g0, .int .u16 x3.g1, .int .u16 x3.g2, .int .u16 x3.g3, .int .u16 x3.g4, .int .u16 x3.g5, .int .u16 x3.g6, .int .u16 x3.g7, .int .i64 x3.p]) (by first | rfl | go_simp) (Below.refl _ _) rfl
      · intro _ ρ w9 hB hs
        have hBB : Below w7.heap.size w7 w9 := ⟨hB.os, hB.tape, hB.output, hB.size, hB.block⟩
        have h1 : ρ (.tmp 1) = .slice (some ⟨b2, o2, none⟩) L0.length c1 := (hs _ (by simp [Op.operands, Call.operands])).2 (fun t ht => by cases ht; kernel_rfl)
        exact ByOps.runs_value (by first | rfl | go_simp) (Below.refl _ _) h1
      · intro _ ρ w9 hB hs
        have hBB : Below w7.heap.size w7 w9 := ⟨hB.os, hB.tape, hB.output, hB.size, hB.block⟩
        have h27 : ρ (.tmp 27) = .slice (some ⟨b2, o2, none⟩) L0.length c1 := (hs (.tmp 27) (by simp [Op.operands, Call.operands])).1 27 rfl 13 _ rfl rfl
        have hk : ρ (.const (.int .i64 4)) = .int .i64 4 := (hs _ (by simp [Op.operands, Call.operands])).2 (fun t ht => by cases ht)
        exact ByOps.runs_value (v := .pointer (some ⟨b2, o2 + 40, none⟩)) (by first | rfl | go_simp) (Below.refl _ _) rfl
      · intro _ ρ w9 hB hs
        have hBB : Below w7.heap.size w7 w9 := ⟨hB.os, hB.tape, hB.output, hB.size, hB.block⟩
        have h28 : ρ (.tmp 28) = .pointer (some ⟨b2, o2 + 40, none⟩) := (hs (.tmp 28) (by simp [Op.operands, Call.operands])).1 28 rfl 14 _ rfl rfl
        obtain ⟨⟨d0, d1, d2, d3, d4⟩, d5, d6, d7, d8, d9⟩ := HC4.out w9 hBB
        simp only [Nat.zero_mul, Nat.add_zero, Nat.one_mul, Nat.reduceMul] at d0 d1 d2 d3 d4 d5 d6 d7 d8 d9
        exact ByOps.runs_value (v := .agg #[.int .i8 x4.f, .int .u16 x4.g0, .int .u16 x4.g1, .int .u16 x4.g2, .int .u16 x4.g3, .int .u16 x4.g4, .int .u16 x4.g5, .int .u16 x4.g6, .int .u16 x4.g7, .int .i64 x4.p]) (by first | rfl | go_simp) (Below.refl _ _) rfl
      · intro _ ρ w9 hB hs
        have hBB : Below w7.heap.size w7 w9 := ⟨hB.os, hB.tape, hB.output, hB.size, hB.block⟩
        have h17 : ρ (.tmp 17) = .agg #[.int .i8 x0.f, .int .u16 x0.g0, .int .u16 x0.g1, .int .u16 x0.g2, .int .u16 x0.g3, .int .u16 x0.g4, .int .u16 x0.g5, .int .u16 x0.g6, .int .u16 x0.g7, .int .i64 x0.p] := (hs (.tmp 17) (by simp [Op.operands, Call.operands])).1 17 rfl 3 _ rfl rfl
        have h20 : ρ (.tmp 20) = .agg #[.int .i8 x2.f, .int .u16 x2.g0, .int .u16 x2.g1, .int .u16 x2.g2, .int .u16 x2.g3, .int .u16 x2.g4, .int .u16 x2.g5, .int .u16 x2.g6, .int .u16 x2.g7, .int .i64 x2.p] := (hs (.tmp 20) (by simp [Op.operands, Call.operands])).1 20 rfl 6 _ rfl rfl
        have h23 : ρ (.tmp 23) = .agg #[.int .i8 x1.f, .int .u16 x1.g0, .int .u16 x1.g1, .int .u16 x1.g2, .int .u16 x1.g3, .int .u16 x1.g4, .int .u16 x1.g5, .int .u16 x1.g6, .int .u16 x1.g7, .int .i64 x1.p] := (hs (.tmp 23) (by simp [Op.operands, Call.operands])).1 23 rfl 9 _ rfl rfl
        have h26 : ρ (.tmp 26) = .agg #[.int .i8 x3.f, .int .u16 x3.g0, .int .u16 x3.g1, .int .u16 x3.g2, .int .u16 x3.g3, .int .u16 x3.g4, .int .u16 x3.g5, .int .u16 x3.g6, .int .u16 x3.g7, .int .i64 x3.p] := (hs (.tmp 26) (by simp [Op.operands, Call.operands])).1 26 rfl 12 _ rfl rfl
        have h29 : ρ (.tmp 29) = .agg #[.int .i8 x4.f, .int .u16 x4.g0, .int .u16 x4.g1, .int .u16 x4.g2, .int .u16 x4.g3, .int .u16 x4.g4, .int .u16 x4.g5, .int .u16 x4.g6, .int .u16 x4.g7, .int .i64 x4.p] := (hs (.tmp 29) (by simp [Op.operands, Call.operands])).1 29 rfl 15 _ rfl rfl
        exact ByOps.runs_value (v := .slice (some ⟨w9.heap.size, 0, none⟩) 5 5) (w' := w9.alloc (.cells #[.int .i8 x0.f, .int .u16 x0.g0, .int .u16 x0.g1, .int .u16 x0.g2, .int .u16 x0.g3, .int .u16 x0.g4, .int .u16 x0.g5, .int .u16 x0.g6, .int .u16 x0.g7, .int .i64 x0.p, .int .i8 x2.f, .int .u16 x2.g0, .int .u16 x2.g1, .int .u16 x2.g2, .int .u16 x2.g3, .int .u16 x2.g4, .int .u16 x2.g5, .int .u16 x2.g6, .int .u16 x2.g7, .int .i64 x2.p, .int .i8 x1.f, .int .u16 x1.g0, .int .u16 x1.g1, .int .u16 x1.g2, .int .u16 x1.g3, .int .u16 x1.g4, .int .u16 x1.g5, .int .u16 x1.g6, .int .u16 x1.g7, .int .i64 x1.p, .int .i8 x3.f, .int .u16 x3.g0, .int .u16 x3.g1, .int .u16 x3.g2, .int .u16 x3.g3, .int .u16 x3.g4, .int .u16 x3.g5, .int .u16 x3.g6, .int .u16 x3.g7, .int .i64 x3.p, .int .i8 x4.f, .int .u16 x4.g0, .int .u16 x4.g1, .int .u16 x4.g2, .int .u16 x4.g3, .int .u16 x4.g4, .int .u16 x4.g5, .int .u16 x4.g6, .int .u16 x4.g7, .int .i64 x4.p] 27)) (by go_simp) (below1 _ _) ⟨some ⟨w9.heap.size, 0, none⟩, 5, rfl, rowC_at (K := AK) w9 27 [x0, x2, x1, x3, x4] #[.int .i8 x0.f, .int .u16 x0.g0, .int .u16 x0.g1, .int .u16 x0.g2, .int .u16 x0.g3, .int .u16 x0.g4, .int .u16 x0.g5, .int .u16 x0.g6, .int .u16 x0.g7, .int .i64 x0.p, .int .i8 x2.f, .int .u16 x2.g0, .int .u16 x2.g1, .int .u16 x2.g2, .int .u16 x2.g3, .int .u16 x2.g4, .int .u16 x2.g5, .int .u16 x2.g6, .int .u16 x2.g7, .int .i64 x2.p, .int .i8 x1.f, .int .u16 x1.g0, .int .u16 x1.g1, .int .u16 x1.g2, .int .u16 x1.g3, .int .u16 x1.g4, .int .u16 x1.g5, .int .u16 x1.g6, .int .u16 x1.g7, .int .i64 x1.p, .int .i8 x3.f, .int .u16 x3.g0, .int .u16 x3.g1, .int .u16 x3.g2, .int .u16 x3.g3, .int .u16 x3.g4, .int .u16 x3.g5, .int .u16 x3.g6, .int .u16 x3.g7, .int .i64 x3.p, .int .i8 x4.f, .int .u16 x4.g0, .int .u16 x4.g1, .int .u16 x4.g2, .int .u16 x4.g3, .int .u16 x4.g4, .int .u16 x4.g5, .int .u16 x4.g6, .int .u16 x4.g7, .int .i64 x4.p] w9.heap.size 5 rfl rfl rfl (by simp)⟩
      · intro _ ρ w9 hB hs
        have hBB : Below w7.heap.size w7 w9 := ⟨hB.os, hB.tape, hB.output, hB.size, hB.block⟩
        have h14 : ρ (.tmp 14) = .slice qa8 L1.length qc8 := (hs (.tmp 14) (by simp [Op.operands, Call.operands])).1 14 rfl 0 _ rfl rfl
        have h30 : ∃ a1 c1, ρ (.tmp 30) = .slice a1 ([x0, x2, x1, x3, x4] : List Ad).length c1 ∧ AK.RowC w9 a1 c1 ([x0, x2, x1, x3, x4]) := (hs (.tmp 30) (by simp [Op.operands, Call.operands])).1 30 rfl 16 _ rfl rfl
        obtain ⟨ra30, rc30, h30, hR30⟩ := h30
        have hfn : ρ (.func 11) = .func (.func 11) #[] #[] := (hs _ (by simp [Op.operands, Call.operands])).2 (fun t ht => by cases ht)
        refine ByOps.runs_enter (f := 11) (args := #[.slice qa8 L1.length qc8, .slice ra30 ([x0, x2, x1, x3, x4] : List Ad).length rc30]) (by go_simp) ?_
        exact (rsame_any L1 [x0, x2, x1, x3, x4] qa8 ra30 qc8 rc30 true w9 (by rw [hL1.out]; simp) (HA.out.below hBB) hR30).mono fun e w2 ⟨he, hb⟩ => ⟨_, he, hb, rfl⟩
      · intro _ ρ w9 hB hs
        have hBB : Below w7.heap.size w7 w9 := ⟨hB.os, hB.tape, hB.output, hB.size, hB.block⟩
        have h31 : ρ (.tmp 31) = .bool true := (hs (.tmp 31) (by simp [Op.operands, Call.operands])).1 31 rfl 17 _ rfl rfl
        exact ByOps.runs_value (by first | rfl | go_simp) (Below.refl _ _) h31
      · intro _ ρ w9 hB hs
        have hBB : Below w7.heap.size w7 w9 := ⟨hB.os, hB.tape, hB.output, hB.size, hB.block⟩
        have h3 : ρ (.tmp 3) = .slice qa9 L2.length qc9 := (hs _ (by simp [Op.operands, Call.operands])).2 (fun t ht => by cases ht; kernel_rfl)
        exact ByOps.runs_value (by first | rfl | go_simp) (Below.refl _ _) h3
      · intro _ ρ w9 hB hs
        have hBB : Below w7.heap.size w7 w9 := ⟨hB.os, hB.tape, hB.output, hB.size, hB.block⟩
        have h1 : ρ (.tmp 1) = .slice (some ⟨b2, o2, none⟩) L0.length c1 := (hs _ (by simp [Op.operands, Call.operands])).2 (fun t ht => by cases ht; kernel_rfl)
        exact ByOps.runs_value (by first | rfl | go_simp) (Below.refl _ _) h1
      · intro _ ρ w9 hB hs
        have hBB : Below w7.heap.size w7 w9 := ⟨hB.os, hB.tape, hB.output, hB.size, hB.block⟩
        have h34 : ρ (.tmp 34) = .slice (some ⟨b2, o2, none⟩) L0.length c1 := (hs (.tmp 34) (by simp [Op.operands, Call.operands])).1 34 rfl 20 _ rfl rfl
        have hk : ρ (.const (.int .i64 1)) = .int .i64 1 := (hs _ (by simp [Op.operands, Call.operands])).2 (fun t ht => by cases ht)
        exact ByOps.runs_value (v := .pointer (some ⟨b2, o2 + 10, none⟩)) (by first | rfl | go_simp) (Below.refl _ _) rfl
      · intro _ ρ w9 hB hs
        have hBB : Below w7.heap.size w7 w9 := ⟨hB.os, hB.tape, hB.output, hB.size, hB.block⟩
        have h35 : ρ (.tmp 35) = .pointer (some ⟨b2, o2 + 10, none⟩) := (hs (.tmp 35) (by simp [Op.operands, Call.operands])).1 35 rfl 21 _ rfl rfl
        obtain ⟨⟨d0, d1, d2, d3, d4⟩, d5, d6, d7, d8, d9⟩ := HC1.out w9 hBB
        simp only [Nat.zero_mul, Nat.add_zero, Nat.one_mul, Nat.reduceMul] at d0 d1 d2 d3 d4 d5 d6 d7 d8 d9
        exact ByOps.runs_value (v := .agg #[.int .i8 x1.f, .int .u16 x1.g0, .int .u16 x1.g1, .int .u16 x1.g2, .int .u16 x1.g3, .int .u16 x1.g4, .int .u16 x1.g5, .int .u16 x1.g6, .int .u16 x1.g7, .int .i64 x1.p]) (by first | rfl | go_simp) (Below.refl _ _) rfl
      · intro _ ρ w9 hB hs
        have hBB : Below w7.heap.size w7 w9 := ⟨hB.os, hB.tape, hB.output, hB.size, hB.block⟩
        have h1 : ρ (.tmp 1) = .slice (some ⟨b2, o2, none⟩) L0.length c1 := (hs _ (by simp [Op.operands, Call.operands])).2 (fun t ht => by cases ht; kernel_rfl)
        exact ByOps.runs_value (by first | rfl | go_simp) (Below.refl _ _) h1
      · intro _ ρ w9 hB hs
        have hBB : Below w7.heap.size w7 w9 := ⟨hB.os, hB.tape, hB.output, hB.size, hB.block⟩
        have h37 : ρ (.tmp 37) = .slice (some ⟨b2, o2, none⟩) L0.length c1 := (hs (.tmp 37) (by simp [Op.operands, Call.operands])).1 37 rfl 23 _ rfl rfl
        have hk : ρ (.const (.int .i64 2)) = .int .i64 2 := (hs _ (by simp [Op.operands, Call.operands])).2 (fun t ht => by cases ht)
        exact ByOps.runs_value (v := .pointer (some ⟨b2, o2 + 20, none⟩)) (by first | rfl | go_simp) (Below.refl _ _) rfl
      · intro _ ρ w9 hB hs
        have hBB : Below w7.heap.size w7 w9 := ⟨hB.os, hB.tape, hB.output, hB.size, hB.block⟩
        have h38 : ρ (.tmp 38) = .pointer (some ⟨b2, o2 + 20, none⟩) := (hs (.tmp 38) (by simp [Op.operands, Call.operands])).1 38 rfl 24 _ rfl rfl
        obtain ⟨⟨d0, d1, d2, d3, d4⟩, d5, d6, d7, d8, d9⟩ := HC2.out w9 hBB
        simp only [Nat.zero_mul, Nat.add_zero, Nat.one_mul, Nat.reduceMul] at d0 d1 d2 d3 d4 d5 d6 d7 d8 d9
        exact ByOps.runs_value (v := .agg #[.int .i8 x2.f, .int .u16 x2.g0, .int .u16 x2.g1, .int .u16 x2.g2, .int .u16 x2.g3, .int .u16 x2.g4, .int .u16 x2.g5, .int .u16 x2.g6, .int .u16 x2.g7, .int .i64 x2.p]) (by first | rfl | go_simp) (Below.refl _ _) rfl
      · intro _ ρ w9 hB hs
        have hBB : Below w7.heap.size w7 w9 := ⟨hB.os, hB.tape, hB.output, hB.size, hB.block⟩
        have h1 : ρ (.tmp 1) = .slice (some ⟨b2, o2, none⟩) L0.length c1 := (hs _ (by simp [Op.operands, Call.operands])).2 (fun t ht => by cases ht; kernel_rfl)
        exact ByOps.runs_value (by first | rfl | go_simp) (Below.refl _ _) h1
      · intro _ ρ w9 hB hs
        have hBB : Below w7.heap.size w7 w9 := ⟨hB.os, hB.tape, hB.output, hB.size, hB.block⟩
        have h40 : ρ (.tmp 40) = .slice (some ⟨b2, o2, none⟩) L0.length c1 := (hs (.tmp 40) (by simp [Op.operands, Call.operands])).1 40 rfl 26 _ rfl rfl
        have hk : ρ (.const (.int .i64 4)) = .int .i64 4 := (hs _ (by simp [Op.operands, Call.operands])).2 (fun t ht => by cases ht)
        exact ByOps.runs_value (v := .pointer (some ⟨b2, o2 + 40, none⟩)) (by first | rfl | go_simp) (Below.refl _ _) rfl
      · intro _ ρ w9 hB hs
        have hBB : Below w7.heap.size w7 w9 := ⟨hB.os, hB.tape, hB.output, hB.size, hB.block⟩
        have h41 : ρ (.tmp 41) = .pointer (some ⟨b2, o2 + 40, none⟩) := (hs (.tmp 41) (by simp [Op.operands, Call.operands])).1 41 rfl 27 _ rfl rfl
        obtain ⟨⟨d0, d1, d2, d3, d4⟩, d5, d6, d7, d8, d9⟩ := HC4.out w9 hBB
        simp only [Nat.zero_mul, Nat.add_zero, Nat.one_mul, Nat.reduceMul] at d0 d1 d2 d3 d4 d5 d6 d7 d8 d9
        exact ByOps.runs_value (v := .agg #[.int .i8 x4.f, .int .u16 x4.g0, .int .u16 x4.g1, .int .u16 x4.g2, .int .u16 x4.g3, .int .u16 x4.g4, .int .u16 x4.g5, .int .u16 x4.g6, .int .u16 x4.g7, .int .i64 x4.p]) (by first | rfl | go_simp) (Below.refl _ _) rfl
      · intro _ ρ w9 hB hs
        have hBB : Below w7.heap.size w7 w9 := ⟨hB.os, hB.tape, hB.output, hB.size, hB.block⟩
        have h1 : ρ (.tmp 1) = .slice (some ⟨b2, o2, none⟩) L0.length c1 := (hs _ (by simp [Op.operands, Call.operands])).2 (fun t ht => by cases ht; kernel_rfl)
        exact ByOps.runs_value (by first | rfl | go_simp) (Below.refl _ _) h1
      · intro _ ρ w9 hB hs
        have hBB : Below w7.heap.size w7 w9 := ⟨hB.os, hB.tape, hB.output, hB.size, hB.block⟩
        have h43 : ρ (.tmp 43) = .slice (some ⟨b2, o2, none⟩) L0.length c1 := (hs (.tmp 43) (by simp [Op.operands, Call.operands])).1 43 rfl 29 _ rfl rfl
        have hk : ρ (.const (.int .i64 3)) = .int .i64 3 := (hs _ (by simp [Op.operands, Call.operands])).2 (fun t ht => by cases ht)
        exact ByOps.runs_value (v := .pointer (some ⟨b2, o2 + 30, none⟩)) (by first | rfl | go_simp) (Below.refl _ _) rfl
      · intro _ ρ w9 hB hs
        have hBB : Below w7.heap.size w7 w9 := ⟨hB.os, hB.tape, hB.output, hB.size, hB.block⟩
        have h44 : ρ (.tmp 44) = .pointer (some ⟨b2, o2 + 30, none⟩) := (hs (.tmp 44) (by simp [Op.operands, Call.operands])).1 44 rfl 30 _ rfl rfl
        obtain ⟨⟨d0, d1, d2, d3, d4⟩, d5, d6, d7, d8, d9⟩ := HC3.out w9 hBB
        simp only [Nat.zero_mul, Nat.add_zero, Nat.one_mul, Nat.reduceMul] at d0 d1 d2 d3 d4 d5 d6 d7 d8 d9
        exact ByOps.runs_value (v := .agg #[.int .i8 x3.f, .int .u16 x3.g0, .int .u16 x3.g1, .int .u16 x3.g2, .int .u16 x3.g3, .int .u16 x3.g4, .int .u16 x3.g5, .int .u16 x3.g6, .int .u16 x3.g7, .int .i64 x3.p]) (by first | rfl | go_simp) (Below.refl _ _) rfl
      · intro _ ρ w9 hB hs
        have hBB : Below w7.heap.size w7 w9 := ⟨hB.os, hB.tape, hB.output, hB.size, hB.block⟩
        have h1 : ρ (.tmp 1) = .slice (some ⟨b2, o2, none⟩) L0.length c1 := (hs _ (by simp [Op.operands, Call.operands])).2 (fun t ht => by cases ht; kernel_rfl)
        exact ByOps.runs_value (by first | rfl | go_simp) (Below.refl _ _) h1
      · intro _ ρ w9 hB hs
        have hBB : Below w7.heap.size w7 w9 := ⟨hB.os, hB.tape, hB.output, hB.size, hB.block⟩
        have h46 : ρ (.tmp 46) = .slice (some ⟨b2, o2, none⟩) L0.length c1 := (hs (.tmp 46) (by simp [Op.operands, Call.operands])).1 46 rfl 32 _ rfl rfl
        have hk : ρ (.const (.int .i64 0)) = .int .i64 0 := (hs _ (by simp [Op.operands, Call.operands])).2 (fun t ht => by cases ht)
        exact ByOps.runs_value (v := .pointer (some ⟨b2, o2, none⟩)) (by first | rfl | go_simp) (Below.refl _ _) rfl
      · intro _ ρ w9 hB hs
        have hBB : Below w7.heap.size w7 w9 := ⟨hB.os, hB.tape, hB.output, hB.size, hB.block⟩
        have h47 : ρ (.tmp 47) = .pointer (some ⟨b2, o2, none⟩) := (hs (.tmp 47) (by simp [Op.operands, Call.operands])).1 47 rfl 33 _ rfl rfl
        obtain ⟨⟨d0, d1, d2, d3, d4⟩, d5, d6, d7, d8, d9⟩ := HC0.out w9 hBB
        simp only [Nat.zero_mul, Nat.add_zero, Nat.one_mul, Nat.reduceMul] at d0 d1 d2 d3 d4 d5 d6 d7 d8 d9
        exact ByOps.runs_value (v := .agg #[.int .i8 x0.f, .int .u16 x0.g0, .int .u16 x0.g1, .int .u16 x0.g2, .int .u16 x0.g3, .int .u16 x0.g4, .int .u16 x0.g5, .int .u16 x0.g6, .int .u16 x0.g7, .int .i64 x0.p]) (by first | rfl | go_simp) (Below.refl _ _) rfl
      · intro _ ρ w9 hB hs
        have hBB : Below w7.heap.size w7 w9 := ⟨hB.os, hB.tape, hB.output, hB.size, hB.block⟩
        have h36 : ρ (.tmp 36) = .agg #[.int .i8 x1.f, .int .u16 x1.g0, .int .u16 x1.g1, .int .u16 x1.g2, .int .u16 x1.g3, .int .u16 x1.g4, .int .u16 x1.g5, .int .u16 x1.g6, .int .u16 x1.g7, .int .i64 x1.p] := (hs (.tmp 36) (by simp [Op.operands, Call.operands])).1 36 rfl 22 _ rfl rfl
        have h39 : ρ (.tmp 39) = .agg #[.int .i8 x2.f, .int .u16 x2.g0, .int .u16 x2.g1, .int .u16 x2.g2, .int .u16 x2.g3, .int .u16 x2.g4, .int .u16 x2.g5, .int .u16 x2.g6, .int .u16 x2.g7, .int .i64 x2.p] := (hs (.tmp 39) (by simp [Op.operands, Call.operands])).1 39 rfl 25 _ rfl rfl
        have h42 : ρ (.tmp 42) = .agg #[.int .i8 x4.f, .int .u16 x4.g0, .int .u16 x4.g1, .int .u16 x4.g2, .int .u16 x4.g3, .int .u16 x4.g4, .int .u16 x4.g5, .int .u16 x4.g6, .int .u16 x4.g7, .int .i64 x4.p] := (hs (.tmp 42) (by simp [Op.operands, Call.operands])).1 42 rfl 28 _ rfl rfl
        have h45 : ρ (.tmp 45) = .agg #[.int .i8 x3.f, .int .u16 x3.g0, .int .u16 x3.g1, .int .u16 x3.g2, .int .u16 x3.g3, .int .u16 x3.g4, .int .u16 x3.g5, .int .u16 x3.g6, .int .u16 x3.g7, .int .i64 x3.p] := (hs (.tmp 45) (by simp [Op.operands, Call.operands])).1 45 rfl 31 _ rfl rfl
        have h48 : ρ (.tmp 48) = .agg #[.int .i8 x0.f, .int .u16 x0.g0, .int .u16 x0.g1, .int .u16 x0.g2, .int .u16 x0.g3, .int .u16 x0.g4, .int .u16 x0.g5, .int .u16 x0.g6, .int .u16 x0.g7, .int .i64 x0.p] := (hs (.tmp 48) (by simp [Op.operands, Call.operands])).1 48 rfl 34 _ rfl rfl
        exact ByOps.runs_value (v := .slice (some ⟨w9.heap.size, 0, none⟩) 5 5) (w' := w9.alloc (.cells #[.int .i8 x1.f, .int .u16 x1.g0, .int .u16 x1.g1, .int .u16 x1.g2, .int .u16 x1.g3, .int .u16 x1.g4, .int .u16 x1.g5, .int .u16 x1.g6, .int .u16 x1.g7, .int .i64 x1.p, .int .i8 x2.f, .int .u16 x2.g0, .int .u16 x2.g1, .int .u16 x2.g2, .int .u16 x2.g3, .int .u16 x2.g4, .int .u16 x2.g5, .int .u16 x2.g6, .int .u16 x2.g7, .int .i64 x2.p, .int .i8 x4.f, .int .u16 x4.g0, .int .u16 x4.g1, .int .u16 x4.g2, .int .u16 x4.g3, .int .u16 x4.g4, .int .u16 x4.g5, .int .u16 x4.g6, .int .u16 x4.g7, .int .i64 x4.p, .int .i8 x3.f, .int .u16 x3.g0, .int .u16 x3.g1, .int .u16 x3.g2, .int .u16 x3.g3, .int .u16 x3.g4, .int .u16 x3.g5, .int .u16 x3.g6, .int .u16 x3.g7, .int .i64 x3.p, .int .i8 x0.f, .int .u16 x0.g0, .int .u16 x0.g1, .int .u16 x0.g2, .int .u16 x0.g3, .int .u16 x0.g4, .int .u16 x0.g5, .int .u16 x0.g6, .int .u16 x0.g7, .int .i64 x0.p] 27)) (by go_simp) (below1 _ _) ⟨some ⟨w9.heap.size, 0, none⟩, 5, rfl, rowC_at (K := AK) w9 27 [x1, x2, x4, x3, x0] #[.int .i8 x1.f, .int .u16 x1.g0, .int .u16 x1.g1, .int .u16 x1.g2, .int .u16 x1.g3, .int .u16 x1.g4, .int .u16 x1.g5, .int .u16 x1.g6, .int .u16 x1.g7, .int .i64 x1.p, .int .i8 x2.f, .int .u16 x2.g0, .int .u16 x2.g1, .int .u16 x2.g2, .int .u16 x2.g3, .int .u16 x2.g4, .int .u16 x2.g5, .int .u16 x2.g6, .int .u16 x2.g7, .int .i64 x2.p, .int .i8 x4.f, .int .u16 x4.g0, .int .u16 x4.g1, .int .u16 x4.g2, .int .u16 x4.g3, .int .u16 x4.g4, .int .u16 x4.g5, .int .u16 x4.g6, .int .u16 x4.g7, .int .i64 x4.p, .int .i8 x3.f, .int .u16 x3.g0, .int .u16 x3.g1, .int .u16 x3.g2, .int .u16 x3.g3, .int .u16 x3.g4, .int .u16 x3.g5, .int .u16 x3.g6, .int .u16 x3.g7, .int .i64 x3.p, .int .i8 x0.f, .int .u16 x0.g0, .int .u16 x0.g1, .int .u16 x0.g2, .int .u16 x0.g3, .int .u16 x0.g4, .int .u16 x0.g5, .int .u16 x0.g6, .int .u16 x0.g7, .int .i64 x0.p] w9.heap.size 5 rfl rfl rfl (by simp)⟩
      · intro _ ρ w9 hB hs
        have hBB : Below w7.heap.size w7 w9 := ⟨hB.os, hB.tape, hB.output, hB.size, hB.block⟩
        have h33 : ρ (.tmp 33) = .slice qa9 L2.length qc9 := (hs (.tmp 33) (by simp [Op.operands, Call.operands])).1 33 rfl 19 _ rfl rfl
        have h49 : ∃ a1 c1, ρ (.tmp 49) = .slice a1 ([x1, x2, x4, x3, x0] : List Ad).length c1 ∧ AK.RowC w9 a1 c1 ([x1, x2, x4, x3, x0]) := (hs (.tmp 49) (by simp [Op.operands, Call.operands])).1 49 rfl 35 _ rfl rfl
        obtain ⟨ra49, rc49, h49, hR49⟩ := h49
        have hfn : ρ (.func 11) = .func (.func 11) #[] #[] := (hs _ (by simp [Op.operands, Call.operands])).2 (fun t ht => by cases ht)
        refine ByOps.runs_enter (f := 11) (args := #[.slice qa9 L2.length qc9, .slice ra49 ([x1, x2, x4, x3, x0] : List Ad).length rc49]) (by go_simp) ?_
        exact (rsame_any L2 [x1, x2, x4, x3, x0] qa9 ra49 qc9 rc49 true w9 (by rw [hL2.out]; simp) (HP.out.below hBB) hR49).mono fun e w2 ⟨he, hb⟩ => ⟨_, he, hb, rfl⟩
      · intro _ ρ w9 hB hs
        have hBB : Below w7.heap.size w7 w9 := ⟨hB.os, hB.tape, hB.output, hB.size, hB.block⟩
        have h32 : ρ (.tmp 32) = .bool true := (hs (.tmp 32) (by simp [Op.operands, Call.operands])).1 32 rfl 18 _ rfl rfl
        have h50 : ρ (.tmp 50) = .bool true := (hs (.tmp 50) (by simp [Op.operands, Call.operands])).1 50 rfl 36 _ rfl rfl
        exact ByOps.runs_value (v := .bool true) (by first | rfl | go_simp) (Below.refl _ _) rfl
      · intro _ ρ w9 hB hs
        have hBB : Below w7.heap.size w7 w9 := ⟨hB.os, hB.tape, hB.output, hB.size, hB.block⟩
        have h51 : ρ (.tmp 51) = .bool true := (hs (.tmp 51) (by simp [Op.operands, Call.operands])).1 51 rfl 37 _ rfl rfl
        exact ByOps.runs_value (by first | rfl | go_simp) (Below.refl _ _) h51
      · intro _ ρ w9 hB hs
        have hBB : Below w7.heap.size w7 w9 := ⟨hB.os, hB.tape, hB.output, hB.size, hB.block⟩
        have h2 : ρ (.tmp 2) = .slice qa8 L1.length qc8 := (hs _ (by simp [Op.operands, Call.operands])).2 (fun t ht => by cases ht; kernel_rfl)
        exact ByOps.runs_value (by first | rfl | go_simp) (Below.refl _ _) h2
      · intro _ ρ w9 hB hs
        have hBB : Below w7.heap.size w7 w9 := ⟨hB.os, hB.tape, hB.output, hB.size, hB.block⟩
        have hk1 : ρ (.const (.int .i64 2)) = .int .i64 2 := (hs _ (by simp [Op.operands, Call.operands])).2 (fun t ht => by cases ht)
        have h53 : ρ (.tmp 53) = .slice qa8 L1.length qc8 := (hs (.tmp 53) (by simp [Op.operands, Call.operands])).1 53 rfl 39 _ rfl rfl
        have hfn : ρ (.func 18) = .func (.func 18) #[] #[] := (hs _ (by simp [Op.operands, Call.operands])).2 (fun t ht => by cases ht)
        refine ByOps.runs_enter (f := 18) (args := #[.int .i64 2, .slice qa8 L1.length qc8]) (by go_simp) ?_
        exact (HFi.out 2 L1 qa8 qc8 L4 w9 h3.out (by rw [n1.out]; omega) (HA.out.below hBB)).mono fun e w2 ⟨a1, c1, he, hR, hb⟩ => ⟨_, he, hb, a1, c1, rfl, hR⟩
      · intro _ ρ w9 hB hs
        have hBB : Below w7.heap.size w7 w9 := ⟨hB.os, hB.tape, hB.output, hB.size, hB.block⟩
        have h54 : ∃ a1 c1, ρ (.tmp 54) = .slice a1 (L4 : List Ad).length c1 ∧ AK.RowC w9 a1 c1 (L4) := (hs (.tmp 54) (by simp [Op.operands, Call.operands])).1 54 rfl 40 _ rfl rfl
        obtain ⟨ra54, rc54, h54, hR54⟩ := h54
        exact ByOps.runs_value (v := .int .i64 ((L4 : List Ad).length : Int)) (by first | rfl | go_simp) (Below.refl _ _) rfl
      · intro _ ρ w9 hB hs
        have hBB : Below w7.heap.size w7 w9 := ⟨hB.os, hB.tape, hB.output, hB.size, hB.block⟩
        have h55 : ρ (.tmp 55) = .int .i64 ((L4 : List Ad).length : Int) := (hs (.tmp 55) (by simp [Op.operands, Call.operands])).1 55 rfl 41 _ rfl rfl
        have hk : ρ (.const (.int .i64 2)) = .int .i64 2 := (hs _ (by simp [Op.operands, Call.operands])).2 (fun t ht => by cases ht)
        exact ByOps.runs_value (v := .bool true) (by first | rfl | go_simp) (Below.refl _ _) rfl
      · intro _ ρ w9 hB hs
        have hBB : Below w7.heap.size w7 w9 := ⟨hB.os, hB.tape, hB.output, hB.size, hB.block⟩
        have h52 : ρ (.tmp 52) = .bool true := (hs (.tmp 52) (by simp [Op.operands, Call.operands])).1 52 rfl 38 _ rfl rfl
        have h56 : ρ (.tmp 56) = .bool true := (hs (.tmp 56) (by simp [Op.operands, Call.operands])).1 56 rfl 42 _ rfl rfl
        exact ByOps.runs_value (v := .bool true) (by first | rfl | go_simp) (Below.refl _ _) rfl
      · intro _ ρ w9 hB hs
        have hBB : Below w7.heap.size w7 w9 := ⟨hB.os, hB.tape, hB.output, hB.size, hB.block⟩
        have h57 : ρ (.tmp 57) = .bool true := (hs (.tmp 57) (by simp [Op.operands, Call.operands])).1 57 rfl 43 _ rfl rfl
        exact ByOps.runs_value (by first | rfl | go_simp) (Below.refl _ _) h57
      · intro _ ρ w9 hB hs
        have hBB : Below w7.heap.size w7 w9 := ⟨hB.os, hB.tape, hB.output, hB.size, hB.block⟩
        have h2 : ρ (.tmp 2) = .slice qa8 L1.length qc8 := (hs _ (by simp [Op.operands, Call.operands])).2 (fun t ht => by cases ht; kernel_rfl)
        exact ByOps.runs_value (by first | rfl | go_simp) (Below.refl _ _) h2
      · intro _ ρ w9 hB hs
        have hBB : Below w7.heap.size w7 w9 := ⟨hB.os, hB.tape, hB.output, hB.size, hB.block⟩
        have h1 : ρ (.tmp 1) = .slice (some ⟨b2, o2, none⟩) L0.length c1 := (hs _ (by simp [Op.operands, Call.operands])).2 (fun t ht => by cases ht; kernel_rfl)
        exact ByOps.runs_value (by first | rfl | go_simp) (Below.refl _ _) h1
      · intro _ ρ w9 hB hs
        have hBB : Below w7.heap.size w7 w9 := ⟨hB.os, hB.tape, hB.output, hB.size, hB.block⟩
        have h60 : ρ (.tmp 60) = .slice (some ⟨b2, o2, none⟩) L0.length c1 := (hs (.tmp 60) (by simp [Op.operands, Call.operands])).1 60 rfl 46 _ rfl rfl
        have hk : ρ (.const (.int .i64 1)) = .int .i64 1 := (hs _ (by simp [Op.operands, Call.operands])).2 (fun t ht => by cases ht)
        exact ByOps.runs_value (v := .pointer (some ⟨b2, o2 + 10, none⟩)) (by first | rfl | go_simp) (Below.refl _ _) rfl
      · intro _ ρ w9 hB hs
        have hBB : Below w7.heap.size w7 w9 := ⟨hB.os, hB.tape, hB.output, hB.size, hB.block⟩
        have h61 : ρ (.tmp 61) = .pointer (some ⟨b2, o2 + 10, none⟩) := (hs (.tmp 61) (by simp [Op.operands, Call.operands])).1 61 rfl 47 _ rfl rfl
        obtain ⟨⟨d0, d1, d2, d3, d4⟩, d5, d6, d7, d8, d9⟩ := HC1.out w9 hBB
        simp only [Nat.zero_mul, Nat.add_zero, Nat.one_mul, Nat.reduceMul] at d0 d1 d2 d3 d4 d5 d6 d7 d8 d9
        exact ByOps.runs_value (v := .agg #[.int .i8 x1.f, .int .u16 x1.g0, .int .u16 x1.g1, .int .u16 x1.g2, .int .u16 x1.g3, .int .u16 x1.g4, .int .u16 x1.g5, .int .u16 x1.g6, .int .u16 x1.g7, .int .i64 x1.p]) (by first | rfl | go_simp) (Below.refl _ _) rfl
      · intro _ ρ w9 hB hs
        have hBB : Below w7.heap.size w7 w9 := ⟨hB.os, hB.tape, hB.output, hB.size, hB.block⟩
        have h59 : ρ (.tmp 59) = .slice qa8 L1.length qc8 := (hs (.tmp 59) (by simp [Op.operands, Call.operands])).1 59 rfl 45 _ rfl rfl
        have h62 : ρ (.tmp 62) = .agg #[.int .i8 x1.f, .int .u16 x1.g0, .int .u16 x1.g1, .int .u16 x1.g2, .int .u16 x1.g3, .int .u16 x1.g4, .int .u16 x1.g5, .int .u16 x1.g6, .int .u16 x1.g7, .int .i64 x1.p] := (hs (.tmp 62) (by simp [Op.operands, Call.operands])).1 62 rfl 48 _ rfl rfl
        have hfn : ρ (.func 20) = .func (.func 20) #[] #[] := (hs _ (by simp [Op.operands, Call.operands])).2 (fun t ht => by cases ht)
        refine ByOps.runs_enter (f := 20) (args := #[.slice qa8 L1.length qc8, .agg #[.int .i8 x1.f, .int .u16 x1.g0, .int .u16 x1.g1, .int .u16 x1.g2, .int .u16 x1.g3, .int .u16 x1.g4, .int .u16 x1.g5, .int .u16 x1.g6, .int .u16 x1.g7, .int .i64 x1.p]]) (by go_simp) ?_
        exact (HPl.out L1 x1 qa8 qc8 2 w9 h4.out (by rw [n1.out]; omega) (HA.out.below hBB)).mono fun e w2 ⟨he, hb⟩ => ⟨_, he, hb, rfl⟩
      · intro _ ρ w9 hB hs
        have hBB : Below w7.heap.size w7 w9 := ⟨hB.os, hB.tape, hB.output, hB.size, hB.block⟩
        have h63 : ρ (.tmp 63) = .int .i64 2 := (hs (.tmp 63) (by simp [Op.operands, Call.operands])).1 63 rfl 49 _ rfl rfl
        have hk : ρ (.const (.int .i64 2)) = .int .i64 2 := (hs _ (by simp [Op.operands, Call.operands])).2 (fun t ht => by cases ht)
        exact ByOps.runs_value (v := .bool true) (by first | rfl | go_simp) (Below.refl _ _) rfl
      · intro _ ρ w9 hB hs
        have hBB : Below w7.heap.size w7 w9 := ⟨hB.os, hB.tape, hB.output, hB.size, hB.block⟩
        have h58 : ρ (.tmp 58) = .bool true := (hs (.tmp 58) (by simp [Op.operands, Call.operands])).1 58 rfl 44 _ rfl rfl
        have h64 : ρ (.tmp 64) = .bool true := (hs (.tmp 64) (by simp [Op.operands, Call.operands])).1 64 rfl 50 _ rfl rfl
        exact ByOps.runs_value (v := .bool true) (by first | rfl | go_simp) (Below.refl _ _) rfl
      · intro _ ρ w9 hB hs
        have hBB : Below w7.heap.size w7 w9 := ⟨hB.os, hB.tape, hB.output, hB.size, hB.block⟩
        have h65 : ρ (.tmp 65) = .bool true := (hs (.tmp 65) (by simp [Op.operands, Call.operands])).1 65 rfl 51 _ rfl rfl
        exact ByOps.runs_value (by first | rfl | go_simp) (Below.refl _ _) h65
    · refine ⟨?_, ?_, ?_, ?_, ?_, ?_, ?_, ?_, ?_, ?_, ?_, ?_, ?_, ?_, ?_, ?_, ?_, ?_, ?_, ?_, ?_, ?_, ?_, ?_, ?_, ?_, ?_, ?_, ?_, ?_, ?_, ?_, ?_, ?_, ?_, ?_, ?_, ?_, ?_, ?_, ?_, ?_, ?_, ?_, ?_, ?_, ?_, ?_, ?_, ?_, ?_, ?_, ?_, trivial⟩
      all_goals first | (intro hs0; cases hs0; done) | (intro _; exact ⟨by simp, fun _ => rfl⟩)
    · refine ⟨?_, ?_, ?_, ?_, ?_, ?_, ?_, ?_, ?_, ?_, ?_, ?_, ?_, ?_, ?_, ?_, ?_, ?_, ?_, ?_, ?_, ?_, ?_, ?_, ?_, ?_, ?_, ?_, ?_, ?_, ?_, ?_, ?_, ?_, ?_, ?_, ?_, ?_, ?_, ?_, ?_, ?_, ?_, ?_, ?_, ?_, ?_, ?_, ?_, ?_, ?_, ?_, ?_, trivial⟩
      all_goals first | (intro g b h; cases h; done) | (intro g b h; cases h; intro v w h; exact ⟨fun h0 => (by first | exact h | cases h0), fun h0 => (by first | cases h0; done | exact .inl h | exact .inr h)⟩)
    · intro a9 w9 hd9 hs9 ho9 hn9 hB9
      obtain ⟨v0, e0, p0⟩ := hn9 0 _ 14 rfl rfl
      obtain ⟨v1, e1, p1⟩ := hn9 1 _ 15 rfl rfl
      obtain ⟨v2, e2, p2⟩ := hn9 2 _ 16 rfl rfl
      obtain ⟨v3, e3, p3⟩ := hn9 3 _ 17 rfl rfl
      obtain ⟨v4, e4, p4⟩ := hn9 4 _ 18 rfl rfl
      obtain ⟨v5, e5, p5⟩ := hn9 5 _ 19 rfl rfl
      obtain ⟨v6, e6, p6⟩ := hn9 6 _ 20 rfl rfl
      obtain ⟨v7, e7, p7⟩ := hn9 7 _ 21 rfl rfl
      obtain ⟨v8, e8, p8⟩ := hn9 8 _ 22 rfl rfl
      obtain ⟨v9, e9, p9⟩ := hn9 9 _ 23 rfl rfl
      obtain ⟨v10, e10, p10⟩ := hn9 10 _ 24 rfl rfl
      obtain ⟨v11, e11, p11⟩ := hn9 11 _ 25 rfl rfl
      obtain ⟨v12, e12, p12⟩ := hn9 12 _ 26 rfl rfl
      obtain ⟨v13, e13, p13⟩ := hn9 13 _ 27 rfl rfl
      obtain ⟨v14, e14, p14⟩ := hn9 14 _ 28 rfl rfl
      obtain ⟨v15, e15, p15⟩ := hn9 15 _ 29 rfl rfl
      obtain ⟨v16, e16, p16⟩ := hn9 16 _ 30 rfl rfl
      obtain ⟨v17, e17, p17⟩ := hn9 17 _ 31 rfl rfl
      obtain ⟨v18, e18, p18⟩ := hn9 18 _ 32 rfl rfl
      obtain ⟨v19, e19, p19⟩ := hn9 19 _ 33 rfl rfl
      obtain ⟨v20, e20, p20⟩ := hn9 20 _ 34 rfl rfl
      obtain ⟨v21, e21, p21⟩ := hn9 21 _ 35 rfl rfl
      obtain ⟨v22, e22, p22⟩ := hn9 22 _ 36 rfl rfl
      obtain ⟨v23, e23, p23⟩ := hn9 23 _ 37 rfl rfl
      obtain ⟨v24, e24, p24⟩ := hn9 24 _ 38 rfl rfl
      obtain ⟨v25, e25, p25⟩ := hn9 25 _ 39 rfl rfl
      obtain ⟨v26, e26, p26⟩ := hn9 26 _ 40 rfl rfl
      obtain ⟨v27, e27, p27⟩ := hn9 27 _ 41 rfl rfl
      obtain ⟨v28, e28, p28⟩ := hn9 28 _ 42 rfl rfl
      obtain ⟨v29, e29, p29⟩ := hn9 29 _ 43 rfl rfl
      obtain ⟨v30, e30, p30⟩ := hn9 30 _ 44 rfl rfl
      obtain ⟨v31, e31, p31⟩ := hn9 31 _ 45 rfl rfl
      obtain ⟨v32, e32, p32⟩ := hn9 32 _ 46 rfl rfl
      obtain ⟨v33, e33, p33⟩ := hn9 33 _ 47 rfl rfl
      obtain ⟨v34, e34, p34⟩ := hn9 34 _ 48 rfl rfl
      obtain ⟨v35, e35, p35⟩ := hn9 35 _ 49 rfl rfl
      obtain ⟨v36, e36, p36⟩ := hn9 36 _ 50 rfl rfl
      obtain ⟨v37, e37, p37⟩ := hn9 37 _ 51 rfl rfl
      obtain ⟨v38, e38, p38⟩ := hn9 38 _ 52 rfl rfl
      obtain ⟨v39, e39, p39⟩ := hn9 39 _ 53 rfl rfl
      obtain ⟨v40, e40, p40⟩ := hn9 40 _ 54 rfl rfl
      obtain ⟨v41, e41, p41⟩ := hn9 41 _ 55 rfl rfl
      obtain ⟨v42, e42, p42⟩ := hn9 42 _ 56 rfl rfl
      obtain ⟨v43, e43, p43⟩ := hn9 43 _ 57 rfl rfl
      obtain ⟨v44, e44, p44⟩ := hn9 44 _ 58 rfl rfl
      obtain ⟨v45, e45, p45⟩ := hn9 45 _ 59 rfl rfl
      obtain ⟨v46, e46, p46⟩ := hn9 46 _ 60 rfl rfl
      obtain ⟨v47, e47, p47⟩ := hn9 47 _ 61 rfl rfl
      obtain ⟨v48, e48, p48⟩ := hn9 48 _ 62 rfl rfl
      obtain ⟨v49, e49, p49⟩ := hn9 49 _ 63 rfl rfl
      obtain ⟨v50, e50, p50⟩ := hn9 50 _ 64 rfl rfl
      obtain ⟨v51, e51, p51⟩ := hn9 51 _ 65 rfl rfl
      obtain ⟨v52, e52, p52⟩ := hn9 52 _ 0 rfl rfl
      obtain rfl : v0 = .slice qa8 L1.length qc8 := p0
      obtain rfl : v1 = .slice (some ⟨b2, o2, none⟩) L0.length c1 := p1
      obtain rfl : v2 = .pointer (some ⟨b2, o2, none⟩) := p2
      obtain rfl : v3 = .agg #[.int .i8 x0.f, .int .u16 x0.g0, .int .u16 x0.g1, .int .u16 x0.g2, .int .u16 x0.g3, .int .u16 x0.g4, .int .u16 x0.g5, .int .u16 x0.g6, .int .u16 x0.g7, .int .i64 x0.p] := p3
      obtain rfl : v4 = .slice (some ⟨b2, o2, none⟩) L0.length c1 := p4
      obtain rfl : v5 = .pointer (some ⟨b2, o2 + 20, none⟩) := p5
      obtain rfl : v6 = .agg #[.int .i8 x2.f, .int .u16 x2.g0, .int .u16 x2.g1, .int .u16 x2.g2, .int .u16 x2.g3, .int .u16 x2.g4, .int .u16 x2.g5, .int .u16 x2.g6, .int .u16 x2.g7, .int .i64 x2.p] := p6
      obtain rfl : v7 = .slice (some ⟨b2, o2, none⟩) L0.length c1 := p7
      obtain rfl : v8 = .pointer (some ⟨b2, o2 + 10, none⟩) := p8
      obtain rfl : v9 = .agg #[.int .i8 x1.f, .int .u16 x1.g0, .int .u16 x1.g1, .int .u16 x1.g2, .int .u16 x1.g3, .int .u16 x1.g4, .int .u16 x1.g5, .int .u16 x1.g6, .int .u16 x1.g7, .int .i64 x1.p] := p9
      obtain rfl : v10 = .slice (some ⟨b2, o2, none⟩) L0.length c1 := p10
      obtain rfl : v11 = .pointer (some ⟨b2, o2 + 30, none⟩) := p11
      obtain rfl : v12 = .agg #[.int .i8 x3.f, .int .u16 x3.g0, .int .u16 x3.g1, .int .u16 x3.g2, .int .u16 x3.g3, .int .u16 x3.g4, .int .u16 x3.g5, .int .u16 x3.g6, .int .u16 x3.g7, .int .i64 x3.p] := p12
      obtain rfl : v13 = .slice (some ⟨b2, o2, none⟩) L0.length c1 := p13
      obtain rfl : v14 = .pointer (some ⟨b2, o2 + 40, none⟩) := p14
      obtain rfl : v15 = .agg #[.int .i8 x4.f, .int .u16 x4.g0, .int .u16 x4.g1, .int .u16 x4.g2, .int .u16 x4.g3, .int .u16 x4.g4, .int .u16 x4.g5, .int .u16 x4.g6, .int .u16 x4.g7, .int .i64 x4.p] := p15
      obtain ⟨qa16, qc16, rfl, hQ16⟩ := p16
      obtain rfl : v17 = .bool true := p17
      obtain rfl : v18 = .bool true := p18
      obtain rfl : v19 = .slice qa9 L2.length qc9 := p19
      obtain rfl : v20 = .slice (some ⟨b2, o2, none⟩) L0.length c1 := p20
      obtain rfl : v21 = .pointer (some ⟨b2, o2 + 10, none⟩) := p21
      obtain rfl : v22 = .agg #[.int .i8 x1.f, .int .u16 x1.g0, .int .u16 x1.g1, .int .u16 x1.g2, .int .u16 x1.g3, .int .u16 x1.g4, .int .u16 x1.g5, .int .u16 x1.g6, .int .u16 x1.g7, .int .i64 x1.p] := p22
      obtain rfl : v23 = .slice (some ⟨b2, o2, none⟩) L0.length c1 := p23
      obtain rfl : v24 = .pointer (some ⟨b2, o2 + 20, none⟩) := p24
      obtain rfl : v25 = .agg #[.int .i8 x2.f, .int .u16 x2.g0, .int .u16 x2.g1, .int .u16 x2.g2, .int .u16 x2.g3, .int .u16 x2.g4, .int .u16 x2.g5, .int .u16 x2.g6, .int .u16 x2.g7, .int .i64 x2.p] := p25
      obtain rfl : v26 = .slice (some ⟨b2, o2, none⟩) L0.length c1 := p26
      obtain rfl : v27 = .pointer (some ⟨b2, o2 + 40, none⟩) := p27
      obtain rfl : v28 = .agg #[.int .i8 x4.f, .int .u16 x4.g0, .int .u16 x4.g1, .int .u16 x4.g2, .int .u16 x4.g3, .int .u16 x4.g4, .int .u16 x4.g5, .int .u16 x4.g6, .int .u16 x4.g7, .int .i64 x4.p] := p28
      obtain rfl : v29 = .slice (some ⟨b2, o2, none⟩) L0.length c1 := p29
      obtain rfl : v30 = .pointer (some ⟨b2, o2 + 30, none⟩) := p30
      obtain rfl : v31 = .agg #[.int .i8 x3.f, .int .u16 x3.g0, .int .u16 x3.g1, .int .u16 x3.g2, .int .u16 x3.g3, .int .u16 x3.g4, .int .u16 x3.g5, .int .u16 x3.g6, .int .u16 x3.g7, .int .i64 x3.p] := p31
      obtain rfl : v32 = .slice (some ⟨b2, o2, none⟩) L0.length c1 := p32
      obtain rfl : v33 = .pointer (some ⟨b2, o2, none⟩) := p33
      obtain rfl : v34 = .agg #[.int .i8 x0.f, .int .u16 x0.g0, .int .u16 x0.g1, .int .u16 x0.g2, .int .u16 x0.g3, .int .u16 x0.g4, .int .u16 x0.g5, .int .u16 x0.g6, .int .u16 x0.g7, .int .i64 x0.p] := p34
      obtain ⟨qa35, qc35, rfl, hQ35⟩ := p35
      obtain rfl : v36 = .bool true := p36
      obtain rfl : v37 = .bool true := p37
      obtain rfl : v38 = .bool true := p38
      obtain rfl : v39 = .slice qa8 L1.length qc8 := p39
      obtain ⟨qa40, qc40, rfl, hQ40⟩ := p40
      obtain rfl : v41 = .int .i64 ((L4 : List Ad).length : Int) := p41
      obtain rfl : v42 = .bool true := p42
      obtain rfl : v43 = .bool true := p43
      obtain rfl : v44 = .bool true := p44
      obtain rfl : v45 = .slice qa8 L1.length qc8 := p45
      obtain rfl : v46 = .slice (some ⟨b2, o2, none⟩) L0.length c1 := p46
      obtain rfl : v47 = .pointer (some ⟨b2, o2 + 10, none⟩) := p47
      obtain rfl : v48 = .agg #[.int .i8 x1.f, .int .u16 x1.g0, .int .u16 x1.g1, .int .u16 x1.g2, .int .u16 x1.g3, .int .u16 x1.g4, .int .u16 x1.g5, .int .u16 x1.g6, .int .u16 x1.g7, .int .i64 x1.p] := p48
      obtain rfl : v49 = .int .i64 2 := p49
      obtain rfl : v50 = .bool true := p50
      obtain rfl : v51 = .bool true := p51
      obtain rfl : v52 = .bool true := p52
      have ha := ByOps.act_eq [(14, .slice qa8 L1.length qc8), (15, .slice (some ⟨b2, o2, none⟩) L0.length c1), (16, .pointer (some ⟨b2, o2, none⟩)), (17, .agg #[.int .i8 x0.f, .int .u16 x0.g0, .int .u16 x0.g1, .int .u16 x0.g2, .int .u16 x0.g3, .int .u16 x0.g4, .int .u16 x0.g5, .int .u16 x0.g6, .int .u16 x0.g7, .int .i64 x0.p]), (18, .slice (some ⟨b2, o2, none⟩) L0.length c1), (19, .pointer (some ⟨b2, o2 + 20, none⟩)), (20, .agg #[.int .i8 x2.f, .int .u16 x2.g0, .int .u16 x2.g1, .int .u16 x2.g2, .int .u16 x2.g3, .int .u16 x2.g4, .int .u16 x2.g5, .int .u16 x2.g6, .int .u16 x2.g7, .int .i64 x2.p]), (21, .slice (some ⟨b2, o2, none⟩) L0.length c1), (22, .pointer (some ⟨b2, o2 + 10, none⟩)), (23, .agg #[.int .i8 x1.f, .int .u16 x1.g0, .int .u16 x1.g1, .int .u16 x1.g2, .int .u16 x1.g3, .int .u16 x1.g4, .int .u16 x1.g5, .int .u16 x1.g6, .int .u16 x1.g7, .int .i64 x1.p]), (24, .slice (some ⟨b2, o2, none⟩) L0.length c1), (25, .pointer (some ⟨b2, o2 + 30, none⟩)), (26, .agg #[.int .i8 x3.f, .int .u16 x3.g0, .int .u16 x3.g1, .int .u16 x3.g2, .int .u16 x3.g3, .int .u16 x3.g4, .int .u16 x3.g5, .int .u16 x3.g6, .int .u16 x3.g7, .int .i64 x3.p]), (27, .slice (some ⟨b2, o2, none⟩) L0.length c1), (28, .pointer (some ⟨b2, o2 + 40, none⟩)), (29, .agg #[.int .i8 x4.f, .int .u16 x4.g0, .int .u16 x4.g1, .int .u16 x4.g2, .int .u16 x4.g3, .int .u16 x4.g4, .int .u16 x4.g5, .int .u16 x4.g6, .int .u16 x4.g7, .int .i64 x4.p]), (30, .slice qa16 ([x0, x2, x1, x3, x4] : List Ad).length qc16), (31, .bool true), (32, .bool true), (33, .slice qa9 L2.length qc9), (34, .slice (some ⟨b2, o2, none⟩) L0.length c1), (35, .pointer (some ⟨b2, o2 + 10, none⟩)), (36, .agg #[.int .i8 x1.f, .int .u16 x1.g0, .int .u16 x1.g1, .int .u16 x1.g2, .int .u16 x1.g3, .int .u16 x1.g4, .int .u16 x1.g5, .int .u16 x1.g6, .int .u16 x1.g7, .int .i64 x1.p]), (37, .slice (some ⟨b2, o2, none⟩) L0.length c1), (38, .pointer (some ⟨b2, o2 + 20, none⟩)), (39, .agg #[.int .i8 x2.f, .int .u16 x2.g0, .int .u16 x2.g1, .int .u16 x2.g2, .int .u16 x2.g3, .int .u16 x2.g4, .int .u16 x2.g5, .int .u16 x2.g6, .int .u16 x2.g7, .int .i64 x2.p]), (40, .slice (some ⟨b2, o2, none⟩) L0.length c1), (41, .pointer (some ⟨b2, o2 + 40, none⟩)), (42, .agg #[.int .i8 x4.f, .int .u16 x4.g0, .int .u16 x4.g1, .int .u16 x4.g2, .int .u16 x4.g3, .int .u16 x4.g4, .int .u16 x4.g5, .int .u16 x4.g6, .int .u16 x4.g7, .int .i64 x4.p]), (43, .slice (some ⟨b2, o2, none⟩) L0.length c1), (44, .pointer (some ⟨b2, o2 + 30, none⟩)), (45, .agg #[.int .i8 x3.f, .int .u16 x3.g0, .int .u16 x3.g1, .int .u16 x3.g2, .int .u16 x3.g3, .int .u16 x3.g4, .int .u16 x3.g5, .int .u16 x3.g6, .int .u16 x3.g7, .int .i64 x3.p]), (46, .slice (some ⟨b2, o2, none⟩) L0.length c1), (47, .pointer (some ⟨b2, o2, none⟩)), (48, .agg #[.int .i8 x0.f, .int .u16 x0.g0, .int .u16 x0.g1, .int .u16 x0.g2, .int .u16 x0.g3, .int .u16 x0.g4, .int .u16 x0.g5, .int .u16 x0.g6, .int .u16 x0.g7, .int .i64 x0.p]), (49, .slice qa35 ([x1, x2, x4, x3, x0] : List Ad).length qc35), (50, .bool true), (51, .bool true), (52, .bool true), (53, .slice qa8 L1.length qc8), (54, .slice qa40 (L4 : List Ad).length qc40), (55, .int .i64 ((L4 : List Ad).length : Int)), (56, .bool true), (57, .bool true), (58, .bool true), (59, .slice qa8 L1.length qc8), (60, .slice (some ⟨b2, o2, none⟩) L0.length c1), (61, .pointer (some ⟨b2, o2 + 10, none⟩)), (62, .agg #[.int .i8 x1.f, .int .u16 x1.g0, .int .u16 x1.g1, .int .u16 x1.g2, .int .u16 x1.g3, .int .u16 x1.g4, .int .u16 x1.g5, .int .u16 x1.g6, .int .u16 x1.g7, .int .i64 x1.p]), (63, .int .i64 2), (64, .bool true), (65, .bool true), (0, .bool true)] a9 _ hd9 hs9 (fun t ht => ho9 t (ByOps.outer_of (ts := [14, 15, 16, 17, 18, 19, 20, 21, 22, 23, 24, 25, 26, 27, 28, 29, 30, 31, 32, 33, 34, 35, 36, 37, 38, 39, 40, 41, 42, 43, 44, 45, 46, 47, 48, 49, 50, 51, 52, 53, 54, 55, 56, 57, 58, 59, 60, 61, 62, 63, 64, 65, 0]) rfl ht)) (by intro p hp; simp only [List.mem_cons, List.not_mem_nil, or_false] at hp; rcases hp with rfl | rfl | rfl | rfl | rfl | rfl | rfl | rfl | rfl | rfl | rfl | rfl | rfl | rfl | rfl | rfl | rfl | rfl | rfl | rfl | rfl | rfl | rfl | rfl | rfl | rfl | rfl | rfl | rfl | rfl | rfl | rfl | rfl | rfl | rfl | rfl | rfl | rfl | rfl | rfl | rfl | rfl | rfl | rfl | rfl | rfl | rfl | rfl | rfl | rfl | rfl | rfl | rfl <;> assumption)
      rw [ha]
      clear ha hn9 ho9 hs9 hd9 e0 e1 e2 e3 e4 e5 e6 e7 e8 e9 e10 e11 e12 e13 e14 e15 e16 e17 e18 e19 e20 e21 e22 e23 e24 e25 e26 e27 e28 e29 e30 e31 e32 e33 e34 e35 e36 e37 e38 e39 e40 e41 e42 e43 e44 e45 e46 e47 e48 e49 e50 e51 e52
      simp only [List.foldl, Act.put, List.setIfInBounds_toArray, List.set_cons_zero, List.set_cons_succ]
      have hb9 : Below w7.heap.size w7 w9 := ⟨hB9.os, hB9.tape, hB9.output, hB9.size, hB9.block⟩
      clear hB9
      have hbf := HB.out.trans (hb9.mono HB.out.size)
      go_wp2_with fail
      go_ret
      exact ⟨rfl, hbf⟩
end Go.Proofs.Ytcihcdifjnobjaa
