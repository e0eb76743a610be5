/- CacheSwaps walked: its return operation by operation (ByOps). -/
import Derived.Test.YtaealoodchkeaaaLawB
import Derived.Test.YtaealoodchkeaaaByOps
set_option linter.unusedSimpArgs false
set_option linter.unusedVariables false
namespace Go.Proofs.Ytaealoodchkeaaa
open R3 Go.RowKit Go.Proofs.Ytaealoodchkeaaa.Kind

def rowF (L : List Kn) : ByOps.Fact := ⟨fun v w => ∃ a1 c1, v = .slice a1 L.length c1 ∧ KK.RowC w a1 c1 L, fun _ _ _ ⟨a, c, e, h⟩ hb => ⟨a, c, e, h.below hb⟩⟩
set_option maxHeartbeats 40000000 in
set_option maxRecDepth 1000000 in
theorem cacheswaps_walk (HEn : EntrySpec) (HGt : GetSpec) (HPt : PutSpec) (HFr : FreshSpec) (HUn : UntilSpec) (HMy : MaySpec) (HWk : WakesSpec) (l : List Kn) (x y : Kn) (a : Option Addr) (c : Nat) (w : World) (hFl : ∀ y ∈ l, FitS y) (hFx : FitS x) (hFy : FitS y) (hA : KK.RowC w a c l) :
    Calls Try.prog 6 #[.slice a l.length c, x.v, y.v] w fun e w' => e = .returned (.bool true) ∧ Below w.heap.size w w' := by
  have HEn := Lib.hid (fun x s row e now y w h => HEn x s row e now y w h)
  have HGt := Lib.hid (fun l s n a c x r w h h1 h2 h3 => HGt l s n a c x r w h h1 h2 h3)
  have HPt := Lib.hid (fun l more L a b c d w h h1 h2 h3 h4 => HPt l more L a b c d w h h1 h2 h3 h4)
  have HFr := Lib.hid (fun l L n a c w h h1 h2 => HFr l L n a c w h h1 h2)
  have HUn := Lib.hid (fun l a c i t w h h1 h2 h3 => HUn l a c i t w h h1 h2 h3)
  have HMy := Lib.hid (fun l a c r w h h1 h2 => HMy l a c r w h h1 h2)
  have HWk := Lib.hid (fun w => HWk w)
  have HB := Lib.hid (Below.refl w.heap.size w)
  have HFl := Lib.hid hFl
  have HFx := Lib.hid hFx
  have HFy := Lib.hid hFy
  have Hl := Lib.hid hA
  clear hFl hFx hFy hA
  simp only [Kn.v]
  go_enter Try.func6, Try.ntmps6
  go_upto_region 1 with fail
  obtain ⟨q0, hq0⟩ : ∃ X, X = (w.alloc (.cells #[.string x.name, .string x.row, .int .i64 x.e, .int .i64 x.until_] 29)).alloc (.cells #[.string y.name, .string y.row, .int .i64 y.e, .int .i64 y.until_] 29) := ⟨_, rfl⟩
  have hb := below2 w (.cells #[.string x.name, .string x.row, .int .i64 x.e, .int .i64 x.until_] 29) (.cells #[.string y.name, .string y.row, .int .i64 y.e, .int .i64 y.until_] 29)
  have hL := laid2 w (.cells #[.string x.name, .string x.row, .int .i64 x.e, .int .i64 x.until_] 29) (.cells #[.string y.name, .string y.row, .int .i64 y.e, .int .i64 y.until_] 29)
  rw [← hq0] at hb hL ⊢
  clear hq0
  obtain ⟨by_, hby⟩ : ∃ n, n = w.heap.size + 1 := ⟨_, rfl⟩
  rw [← hby] at hL ⊢
  have hHx := hL.1
  have hHy := hL.2
  clear hL hby
  replace Hl := Lib.hid (Hl.out.below hb)
  replace HB := Lib.hid (HB.out.trans (hb.mono HB.out.size))
  clear hb
  have Hx := Lib.hid hHx
  have Hy := Lib.hid hHy
  clear hHx hHy
  have HX := Lib.hid (rgreat_any l a c q0 HFl.out Hl.out)
  go_wp2_with fail
  with_reducible refine HX.out.mono ?_
  rintro e w1 ⟨⟨r1, rfl, hf1⟩, hb⟩
  clear HX
  replace Hl := Lib.hid (Hl.out.below hb)
  replace Hx := Lib.hid ((hb.block _ (lt_of_block Hx.out)).trans Hx.out)
  replace Hy := Lib.hid ((hb.block _ (lt_of_block Hy.out)).trans Hy.out)
  replace HB := Lib.hid (HB.out.trans (hb.mono HB.out.size))
  clear hb
  have HF1 := Lib.hid hf1
  clear hf1
  cases r1 with
  | true =>
    go_wp2_with fail
    with_reducible refine (HWk.out _).mono ?_
    rintro e wf ⟨rfl, hb⟩
    have HBf := Lib.hid (HB.out.trans (hb.mono HB.out.size))
    clear hb
    go_wp2_with fail
    go_ret
    exact ⟨rfl, HBf.out⟩
  | false =>
    have HX := Lib.hid (rgreat_any [x, y] (some ⟨w1.heap.size, 0, none⟩) 2 (w1.alloc (.cells #[.string x.name, .string x.row, .int .i64 x.e, .int .i64 x.until_, .string y.name, .string y.row, .int .i64 y.e, .int .i64 y.until_] 29)) (by intro k hk; simp at hk; rcases hk with h | h <;> (subst h; first | exact HFx.out | exact HFy.out)) (rowC_at (K := KK) w1 29 [x, y] #[.string x.name, .string x.row, .int .i64 x.e, .int .i64 x.until_, .string y.name, .string y.row, .int .i64 y.e, .int .i64 y.until_] w1.heap.size 2 rfl rfl rfl (by simp)))
    simp only [List.length_cons, List.length_nil, Nat.zero_add, Nat.reduceAdd] at HX
    obtain ⟨⟨c_x_0, c_x_1, c_x_2, c_x_3⟩, f_x_0, f_x_1, f_x_2, f_x_3⟩ := box_4 Hx.out
    obtain ⟨⟨c_y_0, c_y_1, c_y_2, c_y_3⟩, f_y_0, f_y_1, f_y_2, f_y_3⟩ := box_4 Hy.out
    go_wp2_with fail
    with_reducible refine HX.out.mono ?_
    rintro e w2 ⟨⟨r2, rfl, hf2⟩, hb⟩
    clear c_x_0 c_x_1 c_x_2 c_x_3 f_x_0 f_x_1 f_x_2 f_x_3 c_y_0 c_y_1 c_y_2 c_y_3 f_y_0 f_y_1 f_y_2 f_y_3
    clear HX
    replace hb := (below1 w1 (.cells #[.string x.name, .string x.row, .int .i64 x.e, .int .i64 x.until_, .string y.name, .string y.row, .int .i64 y.e, .int .i64 y.until_] 29)).trans (hb.mono (by simp))
    replace Hl := Lib.hid (Hl.out.below hb)
    replace Hx := Lib.hid ((hb.block _ (lt_of_block Hx.out)).trans Hx.out)
    replace Hy := Lib.hid ((hb.block _ (lt_of_block Hy.out)).trans Hy.out)
    replace HB := Lib.hid (HB.out.trans (hb.mono HB.out.size))
    clear hb
    clear hf2
    cases r2 with
    | true =>
      go_wp2_with fail
      with_reducible refine (HWk.out _).mono ?_
      rintro e wf ⟨rfl, hb⟩
      have HBf := Lib.hid (HB.out.trans (hb.mono HB.out.size))
      clear hb
      go_wp2_with fail
      go_ret
      exact ⟨rfl, HBf.out⟩
    | false =>
      have HW1 := Lib.hid (HF1.out (by first | rfl | trivial))
      have hll : l.length ≤ 60 := HW1.out.1
      obtain ⟨v, hv⟩ : ∃ v, v = mayK l := ⟨_, rfl⟩
      replace hv := Lib.hid hv
      have HX := Lib.hid (rmay_any l a c w2 Hl.out)
      rw [← hv.out] at HX
      go_wp2_with fail
      with_reducible refine HX.out.mono ?_
      rintro e w31 ⟨rfl, hb⟩
      clear HX
      replace Hl := Lib.hid (Hl.out.below hb)
      replace Hx := Lib.hid ((hb.block _ (lt_of_block Hx.out)).trans Hx.out)
      replace Hy := Lib.hid ((hb.block _ (lt_of_block Hy.out)).trans Hy.out)
      replace HB := Lib.hid (HB.out.trans (hb.mono HB.out.size))
      clear hb
      cases v with
      | false =>
        go_wp2_with fail
        with_reducible refine (HWk.out _).mono ?_
        rintro e wf ⟨rfl, hb⟩
        have HBf := Lib.hid (HB.out.trans (hb.mono HB.out.size))
        clear hb
        go_wp2_with fail
        go_ret
        exact ⟨rfl, HBf.out⟩
      | true =>
        by_cases hxy : x.name = y.name
        · have hts : (x.name.toList == y.name.toList) = true := by rw [text_eq]; simp [hxy]
          clear hxy
          obtain ⟨⟨c_x_0, c_x_1, c_x_2, c_x_3⟩, f_x_0, f_x_1, f_x_2, f_x_3⟩ := box_4 Hx.out
          obtain ⟨⟨c_y_0, c_y_1, c_y_2, c_y_3⟩, f_y_0, f_y_1, f_y_2, f_y_3⟩ := box_4 Hy.out
          go_wp2_with fail
          clear c_x_0 c_x_1 c_x_2 c_x_3 f_x_0 f_x_1 f_x_2 f_x_3 c_y_0 c_y_1 c_y_2 c_y_3 f_y_0 f_y_1 f_y_2 f_y_3
          with_reducible refine (HWk.out _).mono ?_
          rintro e wf ⟨rfl, hb⟩
          have HBf := Lib.hid (HB.out.trans (hb.mono HB.out.size))
          clear hb
          go_wp2_with fail
          go_ret
          exact ⟨rfl, HBf.out⟩
        · have hts : (x.name.toList == y.name.toList) = false := by rw [text_eq]; simp [hxy]
          have hup : Up l := (may_iff.1 hv.out.symm).2
          obtain ⟨L, hL⟩ : ∃ L, L = putK l [x, y] := ⟨_, rfl⟩
          obtain ⟨M, hM⟩ : ∃ M, M = putK l [x] := ⟨_, rfl⟩
          have hL2 : L = putK l [y, x] := by rw [hL]; exact put_swap hup hxy
          have hL3 : L = putK M [y] := by rw [hL, hM]; exact (put_put l x y).symm
          have hMl : M.length ≤ 61 := by have := put_le l [x]; rw [hM]; simp at this; omega
          replace hL := Lib.hid hL
          replace hM := Lib.hid hM
          replace hL2 := Lib.hid hL2
          replace hL3 := Lib.hid hL3
          clear hup hxy
          obtain ⟨⟨c_x_0, c_x_1, c_x_2, c_x_3⟩, f_x_0, f_x_1, f_x_2, f_x_3⟩ := box_4 Hx.out
          obtain ⟨⟨c_y_0, c_y_1, c_y_2, c_y_3⟩, f_y_0, f_y_1, f_y_2, f_y_3⟩ := box_4 Hy.out
          go_upto_region 3 with fail
          clear c_x_0 c_x_1 c_x_2 c_x_3 f_x_0 f_x_1 f_x_2 f_x_3 c_y_0 c_y_1 c_y_2 c_y_3 f_y_0 f_y_1 f_y_2 f_y_3
          clear hts
          have hHl := Hl
          refine ByOps.region_by_ops (by kernel_rfl) (ByOps.facts [.val (.slice a l.length c), .val (.agg #[.string x.name, .string x.row, .int .i64 x.e, .int .i64 x.until_]), .val (.agg #[.string y.name, .string y.row, .int .i64 y.e, .int .i64 y.until_]), rowF [x, y], rowF L, .val (.slice a l.length c), .val (.agg #[.string y.name, .string y.row, .int .i64 y.e, .int .i64 y.until_]), .val (.agg #[.string x.name, .string x.row, .int .i64 x.e, .int .i64 x.until_]), rowF [y, x], rowF L, .val (.bool true), .val (.bool true), .val (.slice a l.length c), .val (.agg #[.string x.name, .string x.row, .int .i64 x.e, .int .i64 x.until_]), rowF [x], rowF M, .val (.agg #[.string y.name, .string y.row, .int .i64 y.e, .int .i64 y.until_]), rowF [y], rowF L, .val (.slice a l.length c), .val (.agg #[.string x.name, .string x.row, .int .i64 x.e, .int .i64 x.until_]), .val (.agg #[.string y.name, .string y.row, .int .i64 y.e, .int .i64 y.until_]), rowF [x, y], rowF L, .val (.bool true), .val (.bool true), .val (.bool true), .val (.bool true), .val (.bool true), .val (.bool true)]) (ByOps.facts_up _) (by kernel_rfl) (ByOps.all_ops ?_) (ByOps.all_ops ?_) ?_
          · refine ⟨?_, ?_, ?_, ?_, ?_, ?_, ?_, ?_, ?_, ?_, ?_, ?_, ?_, ?_, ?_, ?_, ?_, ?_, ?_, ?_, ?_, ?_, ?_, ?_, ?_, ?_, ?_, ?_, ?_, ?_, trivial⟩
            · intro ρ w9 hB hs
              have hBB : Below w31.heap.size w31 w9 := ⟨hB.os, hB.tape, hB.output, hB.size, hB.block⟩
              have h0 : ρ (.tmp 0) = (.slice a l.length c) := (hs _ (by simp [Op.operands, Call.operands])).2 (fun t ht => by cases ht; kernel_rfl)
              exact ByOps.runs_value (by first | rfl | go_simp) (Below.refl _ _) h0
            · intro ρ w9 hB hs
              have hBB : Below w31.heap.size w31 w9 := ⟨hB.os, hB.tape, hB.output, hB.size, hB.block⟩
              have h4 : ρ (.tmp 4) = .pointer (some ⟨w.heap.size, 0, none⟩) := (hs _ (by simp [Op.operands, Call.operands])).2 (fun t ht => by cases ht; kernel_rfl)
              obtain ⟨⟨e0, e1, e2, e3⟩, _⟩ := box_4 ((hBB.block _ (lt_of_block Hx.out)).trans Hx.out)
              exact ByOps.runs_value (v := (.agg #[.string x.name, .string x.row, .int .i64 x.e, .int .i64 x.until_])) (by go_simp) (Below.refl _ _) rfl
            · intro ρ w9 hB hs
              have hBB : Below w31.heap.size w31 w9 := ⟨hB.os, hB.tape, hB.output, hB.size, hB.block⟩
              have h5 : ρ (.tmp 5) = .pointer (some ⟨by_, 0, none⟩) := (hs _ (by simp [Op.operands, Call.operands])).2 (fun t ht => by cases ht; kernel_rfl)
              obtain ⟨⟨e0, e1, e2, e3⟩, _⟩ := box_4 ((hBB.block _ (lt_of_block Hy.out)).trans Hy.out)
              exact ByOps.runs_value (v := (.agg #[.string y.name, .string y.row, .int .i64 y.e, .int .i64 y.until_])) (by go_simp) (Below.refl _ _) rfl
            · intro ρ w9 hB hs
              have hBB : Below w31.heap.size w31 w9 := ⟨hB.os, hB.tape, hB.output, hB.size, hB.block⟩
              have h29 : ρ (.tmp 29) = (.agg #[.string x.name, .string x.row, .int .i64 x.e, .int .i64 x.until_]) := (hs (.tmp 29) (by simp [Op.operands, Call.operands])).1 29 rfl 1 _ rfl rfl
              have h30 : ρ (.tmp 30) = (.agg #[.string y.name, .string y.row, .int .i64 y.e, .int .i64 y.until_]) := (hs (.tmp 30) (by simp [Op.operands, Call.operands])).1 30 rfl 2 _ rfl rfl
              exact ByOps.runs_value (v := .slice (some ⟨w9.heap.size, 0, none⟩) 2 2) (w' := w9.alloc (.cells #[.string x.name, .string x.row, .int .i64 x.e, .int .i64 x.until_, .string y.name, .string y.row, .int .i64 y.e, .int .i64 y.until_] 29)) (by go_simp) (below1 _ _) ⟨some ⟨w9.heap.size, 0, none⟩, 2, rfl, rowC_at (K := KK) w9 29 [x, y] #[.string x.name, .string x.row, .int .i64 x.e, .int .i64 x.until_, .string y.name, .string y.row, .int .i64 y.e, .int .i64 y.until_] w9.heap.size 2 rfl rfl rfl (by simp)⟩
            · intro ρ w9 hB hs
              have hBB : Below w31.heap.size w31 w9 := ⟨hB.os, hB.tape, hB.output, hB.size, hB.block⟩
              have h28 : ρ (.tmp 28) = (.slice a l.length c) := (hs (.tmp 28) (by simp [Op.operands, Call.operands])).1 28 rfl 0 _ rfl rfl
              have HA1 := Hl.out.below (hBB)
              have h31 : ∃ a1 c1, ρ (.tmp 31) = .slice a1 ([x, y] : List Kn).length c1 ∧ KK.RowC w9 a1 c1 [x, y] := (hs (.tmp 31) (by simp [Op.operands, Call.operands])).1 31 rfl 3 _ rfl rfl
              obtain ⟨a6, c6, h31, HR1⟩ := h31
              have hfn : ρ (.func 17) = .func (.func 17) #[] #[] := (hs _ (by simp [Op.operands, Call.operands])).2 (fun t ht => by cases ht)
              refine ByOps.runs_enter (f := 17) (args := #[.slice a l.length c, .slice a6 ([x, y] : List Kn).length c6]) (by go_simp) ?_
              exact (HPt.out l [x, y] L a a6 c c6 w9 (by omega) (by simp) hL.out HA1 HR1).mono fun e w2 ⟨a1, c1, he, hR, hb⟩ => ⟨_, he, hb, a1, c1, rfl, hR⟩
            · intro ρ w9 hB hs
              have hBB : Below w31.heap.size w31 w9 := ⟨hB.os, hB.tape, hB.output, hB.size, hB.block⟩
              have h0 : ρ (.tmp 0) = (.slice a l.length c) := (hs _ (by simp [Op.operands, Call.operands])).2 (fun t ht => by cases ht; kernel_rfl)
              exact ByOps.runs_value (by first | rfl | go_simp) (Below.refl _ _) h0
            · intro ρ w9 hB hs
              have hBB : Below w31.heap.size w31 w9 := ⟨hB.os, hB.tape, hB.output, hB.size, hB.block⟩
              have h5 : ρ (.tmp 5) = .pointer (some ⟨by_, 0, none⟩) := (hs _ (by simp [Op.operands, Call.operands])).2 (fun t ht => by cases ht; kernel_rfl)
              obtain ⟨⟨e0, e1, e2, e3⟩, _⟩ := box_4 ((hBB.block _ (lt_of_block Hy.out)).trans Hy.out)
              exact ByOps.runs_value (v := (.agg #[.string y.name, .string y.row, .int .i64 y.e, .int .i64 y.until_])) (by go_simp) (Below.refl _ _) rfl
            · intro ρ w9 hB hs
              have hBB : Below w31.heap.size w31 w9 := ⟨hB.os, hB.tape, hB.output, hB.size, hB.block⟩
              have h4 : ρ (.tmp 4) = .pointer (some ⟨w.heap.size, 0, none⟩) := (hs _ (by simp [Op.operands, Call.operands])).2 (fun t ht => by cases ht; kernel_rfl)
              obtain ⟨⟨e0, e1, e2, e3⟩, _⟩ := box_4 ((hBB.block _ (lt_of_block Hx.out)).trans Hx.out)
              exact ByOps.runs_value (v := (.agg #[.string x.name, .string x.row, .int .i64 x.e, .int .i64 x.until_])) (by go_simp) (Below.refl _ _) rfl
            · intro ρ w9 hB hs
              have hBB : Below w31.heap.size w31 w9 := ⟨hB.os, hB.tape, hB.output, hB.size, hB.block⟩
              have h34 : ρ (.tmp 34) = (.agg #[.string y.name, .string y.row, .int .i64 y.e, .int .i64 y.until_]) := (hs (.tmp 34) (by simp [Op.operands, Call.operands])).1 34 rfl 6 _ rfl rfl
              have h35 : ρ (.tmp 35) = (.agg #[.string x.name, .string x.row, .int .i64 x.e, .int .i64 x.until_]) := (hs (.tmp 35) (by simp [Op.operands, Call.operands])).1 35 rfl 7 _ rfl rfl
              exact ByOps.runs_value (v := .slice (some ⟨w9.heap.size, 0, none⟩) 2 2) (w' := w9.alloc (.cells #[.string y.name, .string y.row, .int .i64 y.e, .int .i64 y.until_, .string x.name, .string x.row, .int .i64 x.e, .int .i64 x.until_] 29)) (by go_simp) (below1 _ _) ⟨some ⟨w9.heap.size, 0, none⟩, 2, rfl, rowC_at (K := KK) w9 29 [y, x] #[.string y.name, .string y.row, .int .i64 y.e, .int .i64 y.until_, .string x.name, .string x.row, .int .i64 x.e, .int .i64 x.until_] w9.heap.size 2 rfl rfl rfl (by simp)⟩
            · intro ρ w9 hB hs
              have hBB : Below w31.heap.size w31 w9 := ⟨hB.os, hB.tape, hB.output, hB.size, hB.block⟩
              have h33 : ρ (.tmp 33) = (.slice a l.length c) := (hs (.tmp 33) (by simp [Op.operands, Call.operands])).1 33 rfl 5 _ rfl rfl
              have HA1 := Hl.out.below (hBB)
              have h36 : ∃ a1 c1, ρ (.tmp 36) = .slice a1 ([y, x] : List Kn).length c1 ∧ KK.RowC w9 a1 c1 [y, x] := (hs (.tmp 36) (by simp [Op.operands, Call.operands])).1 36 rfl 8 _ rfl rfl
              obtain ⟨a6, c6, h36, HR1⟩ := h36
              have hfn : ρ (.func 17) = .func (.func 17) #[] #[] := (hs _ (by simp [Op.operands, Call.operands])).2 (fun t ht => by cases ht)
              refine ByOps.runs_enter (f := 17) (args := #[.slice a l.length c, .slice a6 ([y, x] : List Kn).length c6]) (by go_simp) ?_
              exact (HPt.out l [y, x] L a a6 c c6 w9 (by omega) (by simp) hL2.out HA1 HR1).mono fun e w2 ⟨a1, c1, he, hR, hb⟩ => ⟨_, he, hb, a1, c1, rfl, hR⟩
            · intro ρ w9 hB hs
              have hBB : Below w31.heap.size w31 w9 := ⟨hB.os, hB.tape, hB.output, hB.size, hB.block⟩
              have h32 : ∃ a1 c1, ρ (.tmp 32) = .slice a1 L.length c1 ∧ KK.RowC w9 a1 c1 L := (hs (.tmp 32) (by simp [Op.operands, Call.operands])).1 32 rfl 4 _ rfl rfl
              have h37 : ∃ a1 c1, ρ (.tmp 37) = .slice a1 L.length c1 ∧ KK.RowC w9 a1 c1 L := (hs (.tmp 37) (by simp [Op.operands, Call.operands])).1 37 rfl 9 _ rfl rfl
              obtain ⟨a5, c5, h32, HA1⟩ := h32
              obtain ⟨a6, c6, h37, HR1⟩ := h37
              have hfn : ρ (.func 16) = .func (.func 16) #[] #[] := (hs _ (by simp [Op.operands, Call.operands])).2 (fun t ht => by cases ht)
              refine ByOps.runs_enter (f := 16) (args := #[.slice a5 L.length c5, .slice a6 L.length c6]) (by go_simp) ?_
              exact (rsame_yes L a5 a6 c5 c6 w9 HA1 HR1).mono fun e w2 ⟨he, hb⟩ => ⟨_, he, hb, rfl⟩
            · intro ρ w9 hB hs
              have hBB : Below w31.heap.size w31 w9 := ⟨hB.os, hB.tape, hB.output, hB.size, hB.block⟩
              have h38 : ρ (.tmp 38) = .bool true := (hs (.tmp 38) (by simp [Op.operands, Call.operands])).1 38 rfl 10 _ rfl rfl
              exact ByOps.runs_value (by first | rfl | go_simp) (Below.refl _ _) h38
            · intro ρ w9 hB hs
              have hBB : Below w31.heap.size w31 w9 := ⟨hB.os, hB.tape, hB.output, hB.size, hB.block⟩
              have h0 : ρ (.tmp 0) = (.slice a l.length c) := (hs _ (by simp [Op.operands, Call.operands])).2 (fun t ht => by cases ht; kernel_rfl)
              exact ByOps.runs_value (by first | rfl | go_simp) (Below.refl _ _) h0
            · intro ρ w9 hB hs
              have hBB : Below w31.heap.size w31 w9 := ⟨hB.os, hB.tape, hB.output, hB.size, hB.block⟩
              have h4 : ρ (.tmp 4) = .pointer (some ⟨w.heap.size, 0, none⟩) := (hs _ (by simp [Op.operands, Call.operands])).2 (fun t ht => by cases ht; kernel_rfl)
              obtain ⟨⟨e0, e1, e2, e3⟩, _⟩ := box_4 ((hBB.block _ (lt_of_block Hx.out)).trans Hx.out)
              exact ByOps.runs_value (v := (.agg #[.string x.name, .string x.row, .int .i64 x.e, .int .i64 x.until_])) (by go_simp) (Below.refl _ _) rfl
            · intro ρ w9 hB hs
              have hBB : Below w31.heap.size w31 w9 := ⟨hB.os, hB.tape, hB.output, hB.size, hB.block⟩
              have h41 : ρ (.tmp 41) = (.agg #[.string x.name, .string x.row, .int .i64 x.e, .int .i64 x.until_]) := (hs (.tmp 41) (by simp [Op.operands, Call.operands])).1 41 rfl 13 _ rfl rfl
              exact ByOps.runs_value (v := .slice (some ⟨w9.heap.size, 0, none⟩) 1 1) (w' := w9.alloc (.cells #[.string x.name, .string x.row, .int .i64 x.e, .int .i64 x.until_] 29)) (by go_simp) (below1 _ _) ⟨some ⟨w9.heap.size, 0, none⟩, 1, rfl, rowC_at (K := KK) w9 29 [x] #[.string x.name, .string x.row, .int .i64 x.e, .int .i64 x.until_] w9.heap.size 1 rfl rfl rfl (by simp)⟩
            · intro ρ w9 hB hs
              have hBB : Below w31.heap.size w31 w9 := ⟨hB.os, hB.tape, hB.output, hB.size, hB.block⟩
              have h40 : ρ (.tmp 40) = (.slice a l.length c) := (hs (.tmp 40) (by simp [Op.operands, Call.operands])).1 40 rfl 12 _ rfl rfl
              have HA1 := Hl.out.below (hBB)
              have h42 : ∃ a1 c1, ρ (.tmp 42) = .slice a1 ([x] : List Kn).length c1 ∧ KK.RowC w9 a1 c1 [x] := (hs (.tmp 42) (by simp [Op.operands, Call.operands])).1 42 rfl 14 _ rfl rfl
              obtain ⟨a6, c6, h42, HR1⟩ := h42
              have hfn : ρ (.func 17) = .func (.func 17) #[] #[] := (hs _ (by simp [Op.operands, Call.operands])).2 (fun t ht => by cases ht)
              refine ByOps.runs_enter (f := 17) (args := #[.slice a l.length c, .slice a6 ([x] : List Kn).length c6]) (by go_simp) ?_
              exact (HPt.out l [x] M a a6 c c6 w9 (by omega) (by simp) hM.out HA1 HR1).mono fun e w2 ⟨a1, c1, he, hR, hb⟩ => ⟨_, he, hb, a1, c1, rfl, hR⟩
            · intro ρ w9 hB hs
              have hBB : Below w31.heap.size w31 w9 := ⟨hB.os, hB.tape, hB.output, hB.size, hB.block⟩
              have h5 : ρ (.tmp 5) = .pointer (some ⟨by_, 0, none⟩) := (hs _ (by simp [Op.operands, Call.operands])).2 (fun t ht => by cases ht; kernel_rfl)
              obtain ⟨⟨e0, e1, e2, e3⟩, _⟩ := box_4 ((hBB.block _ (lt_of_block Hy.out)).trans Hy.out)
              exact ByOps.runs_value (v := (.agg #[.string y.name, .string y.row, .int .i64 y.e, .int .i64 y.until_])) (by go_simp) (Below.refl _ _) rfl
            · intro ρ w9 hB hs
              have hBB : Below w31.heap.size w31 w9 := ⟨hB.os, hB.tape, hB.output, hB.size, hB.block⟩
              have h44 : ρ (.tmp 44) = (.agg #[.string y.name, .string y.row, .int .i64 y.e, .int .i64 y.until_]) := (hs (.tmp 44) (by simp [Op.operands, Call.operands])).1 44 rfl 16 _ rfl rfl
              exact ByOps.runs_value (v := .slice (some ⟨w9.heap.size, 0, none⟩) 1 1) (w' := w9.alloc (.cells #[.string y.name, .string y.row, .int .i64 y.e, .int .i64 y.until_] 29)) (by go_simp) (below1 _ _) ⟨some ⟨w9.heap.size, 0, none⟩, 1, rfl, rowC_at (K := KK) w9 29 [y] #[.string y.name, .string y.row, .int .i64 y.e, .int .i64 y.until_] w9.heap.size 1 rfl rfl rfl (by simp)⟩
            · intro ρ w9 hB hs
              have hBB : Below w31.heap.size w31 w9 := ⟨hB.os, hB.tape, hB.output, hB.size, hB.block⟩
              have h43 : ∃ a1 c1, ρ (.tmp 43) = .slice a1 M.length c1 ∧ KK.RowC w9 a1 c1 M := (hs (.tmp 43) (by simp [Op.operands, Call.operands])).1 43 rfl 15 _ rfl rfl
              obtain ⟨a5, c5, h43, HA1⟩ := h43
              have h45 : ∃ a1 c1, ρ (.tmp 45) = .slice a1 ([y] : List Kn).length c1 ∧ KK.RowC w9 a1 c1 [y] := (hs (.tmp 45) (by simp [Op.operands, Call.operands])).1 45 rfl 17 _ rfl rfl
              obtain ⟨a6, c6, h45, HR1⟩ := h45
              have hfn : ρ (.func 17) = .func (.func 17) #[] #[] := (hs _ (by simp [Op.operands, Call.operands])).2 (fun t ht => by cases ht)
              refine ByOps.runs_enter (f := 17) (args := #[.slice a5 M.length c5, .slice a6 ([y] : List Kn).length c6]) (by go_simp) ?_
              exact (HPt.out M [y] L a5 a6 c5 c6 w9 (by omega) (by simp) hL3.out HA1 HR1).mono fun e w2 ⟨a1, c1, he, hR, hb⟩ => ⟨_, he, hb, a1, c1, rfl, hR⟩
            · intro ρ w9 hB hs
              have hBB : Below w31.heap.size w31 w9 := ⟨hB.os, hB.tape, hB.output, hB.size, hB.block⟩
              have h0 : ρ (.tmp 0) = (.slice a l.length c) := (hs _ (by simp [Op.operands, Call.operands])).2 (fun t ht => by cases ht; kernel_rfl)
              exact ByOps.runs_value (by first | rfl | go_simp) (Below.refl _ _) h0
            · intro ρ w9 hB hs
              have hBB : Below w31.heap.size w31 w9 := ⟨hB.os, hB.tape, hB.output, hB.size, hB.block⟩
              have h4 : ρ (.tmp 4) = .pointer (some ⟨w.heap.size, 0, none⟩) := (hs _ (by simp [Op.operands, Call.operands])).2 (fun t ht => by cases ht; kernel_rfl)
              obtain ⟨⟨e0, e1, e2, e3⟩, _⟩ := box_4 ((hBB.block _ (lt_of_block Hx.out)).trans Hx.out)
              exact ByOps.runs_value (v := (.agg #[.string x.name, .string x.row, .int .i64 x.e, .int .i64 x.until_])) (by go_simp) (Below.refl _ _) rfl
            · intro ρ w9 hB hs
              have hBB : Below w31.heap.size w31 w9 := ⟨hB.os, hB.tape, hB.output, hB.size, hB.block⟩
              have h5 : ρ (.tmp 5) = .pointer (some ⟨by_, 0, none⟩) := (hs _ (by simp [Op.operands, Call.operands])).2 (fun t ht => by cases ht; kernel_rfl)
              obtain ⟨⟨e0, e1, e2, e3⟩, _⟩ := box_4 ((hBB.block _ (lt_of_block Hy.out)).trans Hy.out)
              exact ByOps.runs_value (v := (.agg #[.string y.name, .string y.row, .int .i64 y.e, .int .i64 y.until_])) (by go_simp) (Below.refl _ _) rfl
            · intro ρ w9 hB hs
              have hBB : Below w31.heap.size w31 w9 := ⟨hB.os, hB.tape, hB.output, hB.size, hB.block⟩
              have h48 : ρ (.tmp 48) = (.agg #[.string x.name, .string x.row, .int .i64 x.e, .int .i64 x.until_]) := (hs (.tmp 48) (by simp [Op.operands, Call.operands])).1 48 rfl 20 _ rfl rfl
              have h49 : ρ (.tmp 49) = (.agg #[.string y.name, .string y.row, .int .i64 y.e, .int .i64 y.until_]) := (hs (.tmp 49) (by simp [Op.operands, Call.operands])).1 49 rfl 21 _ rfl rfl
              exact ByOps.runs_value (v := .slice (some ⟨w9.heap.size, 0, none⟩) 2 2) (w' := w9.alloc (.cells #[.string x.name, .string x.row, .int .i64 x.e, .int .i64 x.until_, .string y.name, .string y.row, .int .i64 y.e, .int .i64 y.until_] 29)) (by go_simp) (below1 _ _) ⟨some ⟨w9.heap.size, 0, none⟩, 2, rfl, rowC_at (K := KK) w9 29 [x, y] #[.string x.name, .string x.row, .int .i64 x.e, .int .i64 x.until_, .string y.name, .string y.row, .int .i64 y.e, .int .i64 y.until_] w9.heap.size 2 rfl rfl rfl (by simp)⟩
            · intro ρ w9 hB hs
              have hBB : Below w31.heap.size w31 w9 := ⟨hB.os, hB.tape, hB.output, hB.size, hB.block⟩
              have h47 : ρ (.tmp 47) = (.slice a l.length c) := (hs (.tmp 47) (by simp [Op.operands, Call.operands])).1 47 rfl 19 _ rfl rfl
              have HA1 := Hl.out.below (hBB)
              have h50 : ∃ a1 c1, ρ (.tmp 50) = .slice a1 ([x, y] : List Kn).length c1 ∧ KK.RowC w9 a1 c1 [x, y] := (hs (.tmp 50) (by simp [Op.operands, Call.operands])).1 50 rfl 22 _ rfl rfl
              obtain ⟨a6, c6, h50, HR1⟩ := h50
              have hfn : ρ (.func 17) = .func (.func 17) #[] #[] := (hs _ (by simp [Op.operands, Call.operands])).2 (fun t ht => by cases ht)
              refine ByOps.runs_enter (f := 17) (args := #[.slice a l.length c, .slice a6 ([x, y] : List Kn).length c6]) (by go_simp) ?_
              exact (HPt.out l [x, y] L a a6 c c6 w9 (by omega) (by simp) hL.out HA1 HR1).mono fun e w2 ⟨a1, c1, he, hR, hb⟩ => ⟨_, he, hb, a1, c1, rfl, hR⟩
            · intro ρ w9 hB hs
              have hBB : Below w31.heap.size w31 w9 := ⟨hB.os, hB.tape, hB.output, hB.size, hB.block⟩
              have h46 : ∃ a1 c1, ρ (.tmp 46) = .slice a1 L.length c1 ∧ KK.RowC w9 a1 c1 L := (hs (.tmp 46) (by simp [Op.operands, Call.operands])).1 46 rfl 18 _ rfl rfl
              have h51 : ∃ a1 c1, ρ (.tmp 51) = .slice a1 L.length c1 ∧ KK.RowC w9 a1 c1 L := (hs (.tmp 51) (by simp [Op.operands, Call.operands])).1 51 rfl 23 _ rfl rfl
              obtain ⟨a5, c5, h46, HA1⟩ := h46
              obtain ⟨a6, c6, h51, HR1⟩ := h51
              have hfn : ρ (.func 16) = .func (.func 16) #[] #[] := (hs _ (by simp [Op.operands, Call.operands])).2 (fun t ht => by cases ht)
              refine ByOps.runs_enter (f := 16) (args := #[.slice a5 L.length c5, .slice a6 L.length c6]) (by go_simp) ?_
              exact (rsame_yes L a5 a6 c5 c6 w9 HA1 HR1).mono fun e w2 ⟨he, hb⟩ => ⟨_, he, hb, rfl⟩
            · intro ρ w9 hB hs
              have hBB : Below w31.heap.size w31 w9 := ⟨hB.os, hB.tape, hB.output, hB.size, hB.block⟩
              have h39 : ρ (.tmp 39) = .bool true := (hs (.tmp 39) (by simp [Op.operands, Call.operands])).1 39 rfl 11 _ rfl rfl
              have h52 : ρ (.tmp 52) = .bool true := (hs (.tmp 52) (by simp [Op.operands, Call.operands])).1 52 rfl 24 _ rfl rfl
              have hcs : ρ (.const (.bool false)) = .bool false := (hs _ (by simp [Op.operands])).2 (fun t ht => by cases ht)
              exact ByOps.runs_value (v := .bool true) (by go_simp) (Below.refl _ _) rfl
            · intro ρ w9 hB hs
              have hBB : Below w31.heap.size w31 w9 := ⟨hB.os, hB.tape, hB.output, hB.size, hB.block⟩
              have h53 : ρ (.tmp 53) = .bool true := (hs (.tmp 53) (by simp [Op.operands, Call.operands])).1 53 rfl 25 _ rfl rfl
              exact ByOps.runs_value (by first | rfl | go_simp) (Below.refl _ _) h53
            · intro ρ w9 hB hs
              have hBB : Below w31.heap.size w31 w9 := ⟨hB.os, hB.tape, hB.output, hB.size, hB.block⟩
              have hfn : ρ (.func 9) = .func (.func 9) #[] #[] := (hs _ (by simp [Op.operands, Call.operands])).2 (fun t ht => by cases ht)
              exact ByOps.runs_enter (f := 9) (args := #[]) (by go_simp) ((HWk.out w9).mono fun e w2 ⟨he, hb⟩ => ⟨_, he, hb, rfl⟩)
            · intro ρ w9 hB hs
              have hBB : Below w31.heap.size w31 w9 := ⟨hB.os, hB.tape, hB.output, hB.size, hB.block⟩
              have h54 : ρ (.tmp 54) = .bool true := (hs (.tmp 54) (by simp [Op.operands, Call.operands])).1 54 rfl 26 _ rfl rfl
              have h55 : ρ (.tmp 55) = .bool true := (hs (.tmp 55) (by simp [Op.operands, Call.operands])).1 55 rfl 27 _ rfl rfl
              have hcs : ρ (.const (.bool false)) = .bool false := (hs _ (by simp [Op.operands])).2 (fun t ht => by cases ht)
              exact ByOps.runs_value (v := .bool true) (by go_simp) (Below.refl _ _) rfl
            · intro ρ w9 hB hs
              have hBB : Below w31.heap.size w31 w9 := ⟨hB.os, hB.tape, hB.output, hB.size, hB.block⟩
              have h56 : ρ (.tmp 56) = .bool true := (hs (.tmp 56) (by simp [Op.operands, Call.operands])).1 56 rfl 28 _ rfl rfl
              exact ByOps.runs_value (by first | rfl | go_simp) (Below.refl _ _) h56
          · refine ⟨?_, ?_, ?_, ?_, ?_, ?_, ?_, ?_, ?_, ?_, ?_, ?_, ?_, ?_, ?_, ?_, ?_, ?_, ?_, ?_, ?_, ?_, ?_, ?_, ?_, ?_, ?_, ?_, ?_, ?_, trivial⟩
            all_goals first | (intro g b h; cases h; done) | (intro g b h; cases h; intro v w h; exact h)
          · intro a9 w9 hd9 hs9 ho9 hn9 hB9
            obtain ⟨v0, e0, p0⟩ := hn9 0 _ 28 rfl rfl
            obtain ⟨v1, e1, p1⟩ := hn9 1 _ 29 rfl rfl
            obtain ⟨v2, e2, p2⟩ := hn9 2 _ 30 rfl rfl
            obtain ⟨v3, e3, p3⟩ := hn9 3 _ 31 rfl rfl
            obtain ⟨v4, e4, p4⟩ := hn9 4 _ 32 rfl rfl
            obtain ⟨v5, e5, p5⟩ := hn9 5 _ 33 rfl rfl
            obtain ⟨v6, e6, p6⟩ := hn9 6 _ 34 rfl rfl
            obtain ⟨v7, e7, p7⟩ := hn9 7 _ 35 rfl rfl
            obtain ⟨v8, e8, p8⟩ := hn9 8 _ 36 rfl rfl
            obtain ⟨v9, e9, p9⟩ := hn9 9 _ 37 rfl rfl
            obtain ⟨v10, e10, p10⟩ := hn9 10 _ 38 rfl rfl
            obtain ⟨v11, e11, p11⟩ := hn9 11 _ 39 rfl rfl
            obtain ⟨v12, e12, p12⟩ := hn9 12 _ 40 rfl rfl
            obtain ⟨v13, e13, p13⟩ := hn9 13 _ 41 rfl rfl
            obtain ⟨v14, e14, p14⟩ := hn9 14 _ 42 rfl rfl
            obtain ⟨v15, e15, p15⟩ := hn9 15 _ 43 rfl rfl
            obtain ⟨v16, e16, p16⟩ := hn9 16 _ 44 rfl rfl
            obtain ⟨v17, e17, p17⟩ := hn9 17 _ 45 rfl rfl
            obtain ⟨v18, e18, p18⟩ := hn9 18 _ 46 rfl rfl
            obtain ⟨v19, e19, p19⟩ := hn9 19 _ 47 rfl rfl
            obtain ⟨v20, e20, p20⟩ := hn9 20 _ 48 rfl rfl
            obtain ⟨v21, e21, p21⟩ := hn9 21 _ 49 rfl rfl
            obtain ⟨v22, e22, p22⟩ := hn9 22 _ 50 rfl rfl
            obtain ⟨v23, e23, p23⟩ := hn9 23 _ 51 rfl rfl
            obtain ⟨v24, e24, p24⟩ := hn9 24 _ 52 rfl rfl
            obtain ⟨v25, e25, p25⟩ := hn9 25 _ 53 rfl rfl
            obtain ⟨v26, e26, p26⟩ := hn9 26 _ 54 rfl rfl
            obtain ⟨v27, e27, p27⟩ := hn9 27 _ 55 rfl rfl
            obtain ⟨v28, e28, p28⟩ := hn9 28 _ 56 rfl rfl
            obtain ⟨v29, e29, p29⟩ := hn9 29 _ 6 rfl rfl
            have hp29 : v29 = .bool true := p29
            subst hp29
            have hbf := HB.out.trans ((show Below w31.heap.size w31 w9 from ⟨hB9.os, hB9.tape, hB9.output, hB9.size, hB9.block⟩).mono HB.out.size)
            have ha := ByOps.act_eq [(28, v0), (29, v1), (30, v2), (31, v3), (32, v4), (33, v5), (34, v6), (35, v7), (36, v8), (37, v9), (38, v10), (39, v11), (40, v12), (41, v13), (42, v14), (43, v15), (44, v16), (45, v17), (46, v18), (47, v19), (48, v20), (49, v21), (50, v22), (51, v23), (52, v24), (53, v25), (54, v26), (55, v27), (56, v28), (6, .bool true)] a9 _ hd9 hs9 (fun t ht => ho9 t (ByOps.outer_of (ts := [28, 29, 30, 31, 32, 33, 34, 35, 36, 37, 38, 39, 40, 41, 42, 43, 44, 45, 46, 47, 48, 49, 50, 51, 52, 53, 54, 55, 56, 6]) rfl ht)) (by intro p hp; simp only [List.mem_cons, List.not_mem_nil, or_false] at hp; rcases hp with rfl | rfl | rfl | rfl | rfl | rfl | rfl | rfl | rfl | rfl | rfl | rfl | rfl | rfl | rfl | rfl | rfl | rfl | rfl | rfl | rfl | rfl | rfl | rfl | rfl | rfl | rfl | rfl | rfl | rfl <;> assumption)
            rw [ha]
            clear ha hn9 ho9 hs9 hd9 p0 p1 p2 p3 p4 p5 p6 p7 p8 p9 p10 p11 p12 p13 p14 p15 p16 p17 p18 p19 p20 p21 p22 p23 p24 p25 p26 p27 p28 p29
            simp only [List.foldl, Act.put, List.setIfInBounds_toArray, List.set_cons_zero, List.set_cons_succ]
            go_wp2_with fail
            go_ret
            exact ⟨rfl, hbf⟩
end Go.Proofs.Ytaealoodchkeaaa
