/- ScarHeals walked. -/
import Derived.Test.YtipbkhbdnjhofaaLawB
set_option linter.unusedSimpArgs false
set_option linter.unusedVariables false
namespace Go.Proofs.Ytipbkhbdnjhofaa
open R3 Go.RowKit Go.Proofs.Ytipbkhbdnjhofaa.Kind

set_option maxHeartbeats 16000000 in
set_option maxRecDepth 1000000 in
theorem scarheals_walk (HNo : NoteSpec) (HHe : HealSpec) (HFr : FreshSpec) (HHa : HasSpec) (HWo : WorstSpec) (HSa : SameSpec) (HWk : WakesSpec) (l : List Sc) (a : Ad) (g n : Int) (s : Option Addr) (c : Nat) (w : World) (hR : SK.RowC w s c l) (hol : OkS l) (hoa : okA a) :
    Calls Try.prog 4 #[.slice s l.length c, a.v, .int .i64 g, .int .i64 n] w fun e w' => e = .returned (.bool true) ∧ Below w.heap.size w w' := by
  have HNo := Lib.hid (fun l n ds s v c d L w h h1 h2 h3 h4 => HNo l n ds s v c d L w h h1 h2 h3 h4)
  have HHe := Lib.hid (fun l ds s v c d L w h h1 h2 h3 h4 => HHe l ds s v c d L w h h1 h2 h3 h4)
  have HFr := Lib.hid (fun l g n s c L w h h1 h2 => HFr l g n s c L w h h1 h2)
  have HHa := Lib.hid (fun l g n ds s v c d r w h h1 h2 h3 h4 => HHa l g n ds s v c d r w h h1 h2 h3 h4)
  have HWo := Lib.hid (fun l g n s c x r w h h1 h2 h3 => HWo l g n s c x r w h h1 h2 h3)
  have HSa := Lib.hid (fun l m a b c d r w h h1 h2 h3 h4 => HSa l m a b c d r w h h1 h2 h3 h4)
  have HWk := Lib.hid (fun w => HWk w)
  have HB := Lib.hid (Below.refl w.heap.size w)
  have Hl := Lib.hid hR
  have HOl := Lib.hid hol
  have HOa := Lib.hid (okL_one hoa)
  have hmx : l.length ≤ 9223372036854775807 := by have h1 := hR.1; have h2 := hR.2.1; unfold maxLen at h2; omega
  clear hR hol hoa
  simp only [Ad.v]
  go_enter Try.func4, Try.ntmps4
  go_upto_region 1 with fail
  obtain ⟨q1, hq1⟩ : ∃ X, X = w.alloc (.cells #[.int .i8 a.f, .int .u16 a.g0, .int .u16 a.g1, .int .u16 a.g2, .int .u16 a.g3, .int .u16 a.g4, .int .u16 a.g5, .int .u16 a.g6, .int .u16 a.g7, .int .i64 a.p] 31) := ⟨_, rfl⟩
  have hb : Below w.heap.size w q1 := by rw [hq1]; exact below1 _ _
  have hL := laid1 w (.cells #[.int .i8 a.f, .int .u16 a.g0, .int .u16 a.g1, .int .u16 a.g2, .int .u16 a.g3, .int .u16 a.g4, .int .u16 a.g5, .int .u16 a.g6, .int .u16 a.g7, .int .i64 a.p] 31)
  rw [← hq1] at hL ⊢
  clear hq1
  obtain ⟨ba, hba⟩ : ∃ n, n = w.heap.size := ⟨_, rfl⟩
  rw [← hba] at hL ⊢
  have hsa : w.heap.size ≤ ba := by rw [hba]; exact HB.out.size
  clear hba
  replace Hl := Lib.hid (Hl.out.below hb)
  replace HB := Lib.hid (HB.out.trans (hb.mono HB.out.size))
  clear hb
  have Ha := Lib.hid hL
  clear hL
  have HG := Lib.hid (rgreat_any l s c _ q1 rfl hmx)
  by_cases hgr : 100 < l.length
  · rw [decide_eq_true hgr] at HG
    go_wp2_with fail
    (with_reducible refine HG.out.mono ?_)
    rintro e w1 ⟨rfl, hw1⟩
    subst w1
    go_wp2_with fail
    with_reducible refine (HWk.out _).mono ?_
    rintro e wf ⟨rfl, hb⟩
    have HBf := Lib.hid (HB.out.trans (hb.mono HB.out.size))
    clear hb
    go_wp2_with fail
    go_ret
    exact ⟨rfl, HBf.out⟩
  rw [decide_eq_false hgr] at HG
  have hll : l.length ≤ 100 := by omega
  by_cases hg1 : g < 1
  · have hd := decide_eq_true hg1
    go_wp2_with fail
    (with_reducible refine HG.out.mono ?_)
    rintro e w1 ⟨rfl, hw1⟩
    subst w1
    go_wp2_with fail
    with_reducible refine (HWk.out _).mono ?_
    rintro e wf ⟨rfl, hb⟩
    have HBf := Lib.hid (HB.out.trans (hb.mono HB.out.size))
    clear hb
    go_wp2_with fail
    go_ret
    exact ⟨rfl, HBf.out⟩
  have hg1d := decide_eq_false hg1
  by_cases hg2 : 1000 < g
  · have hd := decide_eq_true hg2
    go_wp2_with fail
    (with_reducible refine HG.out.mono ?_)
    rintro e w1 ⟨rfl, hw1⟩
    subst w1
    go_wp2_with fail
    with_reducible refine (HWk.out _).mono ?_
    rintro e wf ⟨rfl, hb⟩
    have HBf := Lib.hid (HB.out.trans (hb.mono HB.out.size))
    clear hb
    go_wp2_with fail
    go_ret
    exact ⟨rfl, HBf.out⟩
  have hg2d := decide_eq_false hg2
  by_cases hn1 : n < 0
  · have hd := decide_eq_true hn1
    go_wp2_with fail
    (with_reducible refine HG.out.mono ?_)
    rintro e w1 ⟨rfl, hw1⟩
    subst w1
    go_wp2_with fail
    with_reducible refine (HWk.out _).mono ?_
    rintro e wf ⟨rfl, hb⟩
    have HBf := Lib.hid (HB.out.trans (hb.mono HB.out.size))
    clear hb
    go_wp2_with fail
    go_ret
    exact ⟨rfl, HBf.out⟩
  have hn1d := decide_eq_false hn1
  by_cases hn2 : 1048576 < n
  · have hd := decide_eq_true hn2
    go_wp2_with fail
    (with_reducible refine HG.out.mono ?_)
    rintro e w1 ⟨rfl, hw1⟩
    subst w1
    go_wp2_with fail
    with_reducible refine (HWk.out _).mono ?_
    rintro e wf ⟨rfl, hb⟩
    have HBf := Lib.hid (HB.out.trans (hb.mono HB.out.size))
    clear hb
    go_wp2_with fail
    go_ret
    exact ⟨rfl, HBf.out⟩
  have hn2d := decide_eq_false hn2
  go_wp2_with fail
  (with_reducible refine HG.out.mono ?_)
  rintro e w1 ⟨rfl, hw1⟩
  subst w1
  clear HG hgr hg1d hg2d hn1d hn2d
  obtain ⟨H0, hH0⟩ : ∃ H0, H0 = healS l [a] := ⟨_, rfl⟩
  have hH1 : H0 = outS l a := hH0
  have hHl : H0.length ≤ 100 := by have := out_len l a; rw [hH1]; omega
  have hf0 : HasIs false H0 g n [a] := ⟨by rw [hH1, has_out], by rw [hH1]; exact okS_out HOl.out a, HOa.out⟩
  have hHO : OkS H0 := by rw [hH1]; exact okS_out HOl.out a
  replace hH0 : HealIs H0 l [a] := ⟨hH0, HOl.out, HOa.out⟩
  replace hH0 := Lib.hid hH0
  replace hH1 := Lib.hid hH1
  replace hf0 := Lib.hid hf0
  replace hHO := Lib.hid hHO
  have HX := Lib.hid (HHe.out l [a] s (some ⟨q1.heap.size, 0, none⟩) c 1 H0 (q1.alloc (.cells #[.int .i8 a.f, .int .u16 a.g0, .int .u16 a.g1, .int .u16 a.g2, .int .u16 a.g3, .int .u16 a.g4, .int .u16 a.g5, .int .u16 a.g6, .int .u16 a.g7, .int .i64 a.p] 31)) hH0.out (by omega) (by simp) (Hl.out.below (below1 q1 (.cells #[.int .i8 a.f, .int .u16 a.g0, .int .u16 a.g1, .int .u16 a.g2, .int .u16 a.g3, .int .u16 a.g4, .int .u16 a.g5, .int .u16 a.g6, .int .u16 a.g7, .int .i64 a.p] 31))) (rowC_at (K := AK) q1 31 [a] #[.int .i8 a.f, .int .u16 a.g0, .int .u16 a.g1, .int .u16 a.g2, .int .u16 a.g3, .int .u16 a.g4, .int .u16 a.g5, .int .u16 a.g6, .int .u16 a.g7, .int .i64 a.p] q1.heap.size 1 rfl rfl rfl (by simp)))
  simp only [List.length_cons, List.length_nil, Nat.zero_add, Nat.reduceAdd] at HX
  obtain ⟨⟨c_a_0, c_a_1, c_a_2, c_a_3, c_a_4, c_a_5, c_a_6, c_a_7, c_a_8, c_a_9⟩, f_a_0, f_a_1, f_a_2, f_a_3, f_a_4, f_a_5, f_a_6, f_a_7, f_a_8, f_a_9⟩ := box_10 Ha.out
  go_wp2_with fail
  with_reducible refine HX.out.mono ?_
  rintro e w2 ⟨a1, c1, rfl, hR, hb⟩
  clear c_a_0 c_a_1 c_a_2 c_a_3 c_a_4 c_a_5 c_a_6 c_a_7 c_a_8 c_a_9 f_a_0 f_a_1 f_a_2 f_a_3 f_a_4 f_a_5 f_a_6 f_a_7 f_a_8 f_a_9
  clear HX
  replace hb := (below1 q1 (.cells #[.int .i8 a.f, .int .u16 a.g0, .int .u16 a.g1, .int .u16 a.g2, .int .u16 a.g3, .int .u16 a.g4, .int .u16 a.g5, .int .u16 a.g6, .int .u16 a.g7, .int .i64 a.p] 31)).trans (hb.mono (by simp))
  replace Hl := Lib.hid (Hl.out.below hb)
  replace Ha := Lib.hid ((hb.block _ (lt_of_block Ha.out)).trans Ha.out)
  replace HB := Lib.hid (HB.out.trans (hb.mono HB.out.size))
  clear hb
  have Hh := Lib.hid hR
  clear hR
  have HX := Lib.hid (HHa.out H0 g n [a] a1 (some ⟨w2.heap.size, 0, none⟩) c1 1 false (w2.alloc (.cells #[.int .i8 a.f, .int .u16 a.g0, .int .u16 a.g1, .int .u16 a.g2, .int .u16 a.g3, .int .u16 a.g4, .int .u16 a.g5, .int .u16 a.g6, .int .u16 a.g7, .int .i64 a.p] 31)) hf0.out (by omega) (by simp) (Hh.out.below (below1 w2 (.cells #[.int .i8 a.f, .int .u16 a.g0, .int .u16 a.g1, .int .u16 a.g2, .int .u16 a.g3, .int .u16 a.g4, .int .u16 a.g5, .int .u16 a.g6, .int .u16 a.g7, .int .i64 a.p] 31))) (rowC_at (K := AK) w2 31 [a] #[.int .i8 a.f, .int .u16 a.g0, .int .u16 a.g1, .int .u16 a.g2, .int .u16 a.g3, .int .u16 a.g4, .int .u16 a.g5, .int .u16 a.g6, .int .u16 a.g7, .int .i64 a.p] w2.heap.size 1 rfl rfl rfl (by simp)))
  simp only [List.length_cons, List.length_nil, Nat.zero_add, Nat.reduceAdd] at HX
  obtain ⟨⟨c_a_0, c_a_1, c_a_2, c_a_3, c_a_4, c_a_5, c_a_6, c_a_7, c_a_8, c_a_9⟩, f_a_0, f_a_1, f_a_2, f_a_3, f_a_4, f_a_5, f_a_6, f_a_7, f_a_8, f_a_9⟩ := box_10 Ha.out
  go_wp2_with fail
  with_reducible refine HX.out.mono ?_
  rintro e w3 ⟨rfl, hb⟩
  clear c_a_0 c_a_1 c_a_2 c_a_3 c_a_4 c_a_5 c_a_6 c_a_7 c_a_8 c_a_9 f_a_0 f_a_1 f_a_2 f_a_3 f_a_4 f_a_5 f_a_6 f_a_7 f_a_8 f_a_9
  clear HX
  replace hb := (below1 w2 (.cells #[.int .i8 a.f, .int .u16 a.g0, .int .u16 a.g1, .int .u16 a.g2, .int .u16 a.g3, .int .u16 a.g4, .int .u16 a.g5, .int .u16 a.g6, .int .u16 a.g7, .int .i64 a.p] 31)).trans (hb.mono (by simp))
  replace Hl := Lib.hid (Hl.out.below hb)
  replace Hh := Lib.hid (Hh.out.below hb)
  replace Ha := Lib.hid ((hb.block _ (lt_of_block Ha.out)).trans Ha.out)
  replace HB := Lib.hid (HB.out.trans (hb.mono HB.out.size))
  clear hb
  go_wp2_with fail
  go_loopw [8, 10, 11] (fun r k i wr => ∃ (q m : Nat), r = .bool false ∧ k = .int .i64 m ∧ i = .int .i64 q ∧ q ≤ l.length ∧ m ≤ q ∧ Hid (m = (outS (l.take q) a).length) ∧ Hid (Below w3.heap.size w3 wr)) (fun _ _ i _ => l.length - (intOf i).toNat)
  case atStart => exact ⟨0, 0, rfl, rfl, rfl, by omega, by omega, Lib.hid rfl, Lib.hid (Below.refl _ _)⟩
  case round =>
    obtain ⟨q, m, rfl, rfl, rfl, hq, hmq, hm, hb0⟩ := hrel
    have HM := Lib.hid hm.out
    have hb := hb0.out
    clear hm hb0
    have HBr := Lib.hid hb
    replace Hl := Lib.hid (Hl.out.below hb)
    replace Hh := Lib.hid (Hh.out.below hb)
    replace Ha := Lib.hid ((hb.block _ (lt_of_block Ha.out)).trans Ha.out)
    replace HB := Lib.hid (HB.out.trans (hb.mono HB.out.size))
    clear hb
    have hmi : (m : Int) ≤ 100 := by omega
    by_cases hlt : q < l.length
    · obtain ⟨x, hx⟩ : ∃ x, l[q]? = some x := ⟨_, List.getElem?_eq_getElem hlt⟩
      obtain ⟨b, o, rfl, hbl, hat⟩ := Hl.out.2.2.2 (by omega)
      obtain ⟨d0, d1, d2, d3, d4, d5, d6, d7, d8, d9, d10⟩ := SK.cells hat hx
      have hst := out_step (a := a) hx
      have hE := eql_ad x.ad a
      have hgd := guard_ad
      have hqi : (q : Int) < (l.length : Int) := by omega
      have hq0 : (0 : Int) ≤ (q : Int) := by omega
      by_cases hxa : x.ad = a
      · rw [decide_eq_true hxa] at hE
        have hof : offS a x = false := by unfold offS; simp [hxa]
        rw [hof] at hst
        have HS := Lib.hid hst
        clear hst hof hxa hat hx
        obtain ⟨⟨c_a_0, c_a_1, c_a_2, c_a_3, c_a_4, c_a_5, c_a_6, c_a_7, c_a_8, c_a_9⟩, f_a_0, f_a_1, f_a_2, f_a_3, f_a_4, f_a_5, f_a_6, f_a_7, f_a_8, f_a_9⟩ := box_10 Ha.out
        go_wp2_with fail
        go_quiet (fail)
        go_wp2_with fail
        go_roundw
        case rel => exact ⟨q + 1, m, rfl, rfl, by go_num, by omega, by omega, Lib.hid (by rw [HS.out]; simpa using HM.out), Lib.hid (below_drewN HBr.out _)⟩
        case measure => simp [intOf]; omega
      · rw [decide_eq_false hxa] at hE
        have hof : offS a x = true := by unfold offS; simp [hxa]
        have hxm : H0[m]? = some x := by rw [hH1.out, HM.out]; exact filter_at (offS a) l q x hx hof
        have hml : m < H0.length := (List.getElem?_eq_some_iff.1 hxm).1
        rw [hof] at hst
        have HS := Lib.hid hst
        clear hst hof hxa
        obtain ⟨b1, o1, rfl, hbl1, hat1⟩ := Hh.out.2.2.2 (by omega)
        obtain ⟨⟨c_a_0, c_a_1, c_a_2, c_a_3, c_a_4, c_a_5, c_a_6, c_a_7, c_a_8, c_a_9⟩, f_a_0, f_a_1, f_a_2, f_a_3, f_a_4, f_a_5, f_a_6, f_a_7, f_a_8, f_a_9⟩ := box_10 Ha.out
        go_wp2_with fail
        go_quiet (fail)
        obtain ⟨wz, hwz, hbz⟩ : ∃ wz, wz = wr.drewN nq ∧ Below wr.heap.size wr wz := ⟨_, rfl, below_drewN (Below.refl _ _) _⟩
        rw [← hwz]
        clear hwz d0 d1 d2 d3 d4 d5 d6 d7 d8 d9 d10
        clear c_a_0 c_a_1 c_a_2 c_a_3 c_a_4 c_a_5 c_a_6 c_a_7 c_a_8 c_a_9 f_a_0 f_a_1 f_a_2 f_a_3 f_a_4 f_a_5 f_a_6 f_a_7 f_a_8 f_a_9
        obtain ⟨d0, d1, d2, d3, d4, d5, d6, d7, d8, d9, d10⟩ := SK.cells (hat.below hbz hbl) hx
        obtain ⟨k0, k1, k2, k3, k4, k5, k6, k7, k8, k9, k10⟩ := SK.cells (hat1.below hbz hbl1) hxm
        have hNe := neq_sc x x
        rw [show decide (x ≠ x) = false by simp] at hNe
        have hgs := guard_sc
        have hmi2 : (m : Int) < (H0.length : Int) := by omega
        have hm0 : (0 : Int) ≤ (m : Int) := by omega
        have hmd : decide ((H0.length : Int) ≤ (m : Int)) = false := decide_eq_false (by omega)
        have hmn : ¬ (H0.length : Int) ≤ (m : Int) := by omega
        have hmd2 : decide (H0.length ≤ m) = false := decide_eq_false (by omega)
        have hmn2 : ¬ H0.length ≤ m := by omega
        have HBz := Lib.hid (HBr.out.trans (hbz.mono HBr.out.size))
        clear hat hx hat1 hxm hbz
        go_wp2_with fail
        go_quiet (fail)
        go_wp2_with fail
        go_roundw
        case rel => exact ⟨q + 1, m + 1, rfl, by go_num, by go_num, by omega, by omega, Lib.hid (by rw [HS.out]; simpa using HM.out), Lib.hid (below_drewN HBz.out _)⟩
        case measure => simp [intOf]; omega
    · obtain rfl : q = l.length := by omega
      have hme := HM.out
      rw [List.take_length, ← hH1.out] at hme
      subst hme
      clear hlt HM
      obtain ⟨N1, hN1⟩ : ∃ N1, N1 = noteS H0 n [a] := ⟨_, rfl⟩
      have hNl : N1.length ≤ 32 := by rw [hN1]; exact note_len _ _ _
      have hNO : OkS N1 := by rw [hN1]; exact okS_note hHO.out HOa.out n
      have hq1 : HasIs true N1 g n [a] := ⟨by rw [hN1, has_note, old_plain (by omega) (by omega) (by omega) (by omega) (by omega) (by omega)]; simp; omega, hNO, HOa.out⟩
      have hq2 : HasIs true N1 g (n + g - 1) [a] := ⟨by rw [hN1, has_note, old_plain (by omega) (by omega) (by omega) (by omega) (by omega) (by omega)]; simp; omega, hNO, HOa.out⟩
      have hq3 : HasIs false N1 g (n + g) [a] := ⟨by rw [hN1, has_note, old_plain (by omega) (by omega) (by omega) (by omega) (by omega) (by omega)]; simp, hNO, HOa.out⟩
      replace hN1 : NoteIs N1 H0 n [a] := ⟨by rw [P.clamp_id n (by omega) (by omega)]; exact hN1, hHO.out, HOa.out⟩
      replace hN1 := Lib.hid hN1
      replace hq1 := Lib.hid hq1
      replace hq2 := Lib.hid hq2
      replace hq3 := Lib.hid hq3
      have HX := Lib.hid (HNo.out H0 n [a] a1 (some ⟨wr.heap.size, 0, none⟩) c1 1 N1 (wr.alloc (.cells #[.int .i8 a.f, .int .u16 a.g0, .int .u16 a.g1, .int .u16 a.g2, .int .u16 a.g3, .int .u16 a.g4, .int .u16 a.g5, .int .u16 a.g6, .int .u16 a.g7, .int .i64 a.p] 31)) hN1.out (by omega) (by simp) (Hh.out.below (below1 wr (.cells #[.int .i8 a.f, .int .u16 a.g0, .int .u16 a.g1, .int .u16 a.g2, .int .u16 a.g3, .int .u16 a.g4, .int .u16 a.g5, .int .u16 a.g6, .int .u16 a.g7, .int .i64 a.p] 31))) (rowC_at (K := AK) wr 31 [a] #[.int .i8 a.f, .int .u16 a.g0, .int .u16 a.g1, .int .u16 a.g2, .int .u16 a.g3, .int .u16 a.g4, .int .u16 a.g5, .int .u16 a.g6, .int .u16 a.g7, .int .i64 a.p] wr.heap.size 1 rfl rfl rfl (by simp)))
      simp only [List.length_cons, List.length_nil, Nat.zero_add, Nat.reduceAdd] at HX
      obtain ⟨⟨c_a_0, c_a_1, c_a_2, c_a_3, c_a_4, c_a_5, c_a_6, c_a_7, c_a_8, c_a_9⟩, f_a_0, f_a_1, f_a_2, f_a_3, f_a_4, f_a_5, f_a_6, f_a_7, f_a_8, f_a_9⟩ := box_10 Ha.out
      go_wp2_with fail
      with_reducible refine HX.out.mono ?_
      rintro e w4 ⟨a2, c2, rfl, hR, hb⟩
      clear c_a_0 c_a_1 c_a_2 c_a_3 c_a_4 c_a_5 c_a_6 c_a_7 c_a_8 c_a_9 f_a_0 f_a_1 f_a_2 f_a_3 f_a_4 f_a_5 f_a_6 f_a_7 f_a_8 f_a_9
      clear HX
      replace hb := (below1 wr (.cells #[.int .i8 a.f, .int .u16 a.g0, .int .u16 a.g1, .int .u16 a.g2, .int .u16 a.g3, .int .u16 a.g4, .int .u16 a.g5, .int .u16 a.g6, .int .u16 a.g7, .int .i64 a.p] 31)).trans (hb.mono (by simp))
      replace Hl := Lib.hid (Hl.out.below hb)
      replace Hh := Lib.hid (Hh.out.below hb)
      replace Ha := Lib.hid ((hb.block _ (lt_of_block Ha.out)).trans Ha.out)
      replace HB := Lib.hid (HB.out.trans (hb.mono HB.out.size))
      clear hb
      have Hn := Lib.hid hR
      clear hR
      have hw94 : IntKind.i64.wrap (n + g) = n + g := by rw [IntKind.wrap_i64]; omega
      have hw95 : IntKind.i64.wrap (n + g - 1) = n + g - 1 := by rw [IntKind.wrap_i64]; omega
      have HX := Lib.hid (HHa.out N1 g n [a] a2 (some ⟨w4.heap.size, 0, none⟩) c2 1 true (w4.alloc (.cells #[.int .i8 a.f, .int .u16 a.g0, .int .u16 a.g1, .int .u16 a.g2, .int .u16 a.g3, .int .u16 a.g4, .int .u16 a.g5, .int .u16 a.g6, .int .u16 a.g7, .int .i64 a.p] 31)) hq1.out (by omega) (by simp) (Hn.out.below (below1 w4 (.cells #[.int .i8 a.f, .int .u16 a.g0, .int .u16 a.g1, .int .u16 a.g2, .int .u16 a.g3, .int .u16 a.g4, .int .u16 a.g5, .int .u16 a.g6, .int .u16 a.g7, .int .i64 a.p] 31))) (rowC_at (K := AK) w4 31 [a] #[.int .i8 a.f, .int .u16 a.g0, .int .u16 a.g1, .int .u16 a.g2, .int .u16 a.g3, .int .u16 a.g4, .int .u16 a.g5, .int .u16 a.g6, .int .u16 a.g7, .int .i64 a.p] w4.heap.size 1 rfl rfl rfl (by simp)))
      simp only [List.length_cons, List.length_nil, Nat.zero_add, Nat.reduceAdd] at HX
      obtain ⟨⟨c_a_0, c_a_1, c_a_2, c_a_3, c_a_4, c_a_5, c_a_6, c_a_7, c_a_8, c_a_9⟩, f_a_0, f_a_1, f_a_2, f_a_3, f_a_4, f_a_5, f_a_6, f_a_7, f_a_8, f_a_9⟩ := box_10 Ha.out
      go_wp2_with fail
      with_reducible refine HX.out.mono ?_
      rintro e w5 ⟨rfl, hb⟩
      clear c_a_0 c_a_1 c_a_2 c_a_3 c_a_4 c_a_5 c_a_6 c_a_7 c_a_8 c_a_9 f_a_0 f_a_1 f_a_2 f_a_3 f_a_4 f_a_5 f_a_6 f_a_7 f_a_8 f_a_9
      clear HX
      replace hb := (below1 w4 (.cells #[.int .i8 a.f, .int .u16 a.g0, .int .u16 a.g1, .int .u16 a.g2, .int .u16 a.g3, .int .u16 a.g4, .int .u16 a.g5, .int .u16 a.g6, .int .u16 a.g7, .int .i64 a.p] 31)).trans (hb.mono (by simp))
      replace Hl := Lib.hid (Hl.out.below hb)
      replace Hh := Lib.hid (Hh.out.below hb)
      replace Hn := Lib.hid (Hn.out.below hb)
      replace Ha := Lib.hid ((hb.block _ (lt_of_block Ha.out)).trans Ha.out)
      replace HB := Lib.hid (HB.out.trans (hb.mono HB.out.size))
      clear hb
      have HX := Lib.hid (HHa.out N1 g (n + g - 1) [a] a2 (some ⟨w5.heap.size, 0, none⟩) c2 1 true (w5.alloc (.cells #[.int .i8 a.f, .int .u16 a.g0, .int .u16 a.g1, .int .u16 a.g2, .int .u16 a.g3, .int .u16 a.g4, .int .u16 a.g5, .int .u16 a.g6, .int .u16 a.g7, .int .i64 a.p] 31)) hq2.out (by omega) (by simp) (Hn.out.below (below1 w5 (.cells #[.int .i8 a.f, .int .u16 a.g0, .int .u16 a.g1, .int .u16 a.g2, .int .u16 a.g3, .int .u16 a.g4, .int .u16 a.g5, .int .u16 a.g6, .int .u16 a.g7, .int .i64 a.p] 31))) (rowC_at (K := AK) w5 31 [a] #[.int .i8 a.f, .int .u16 a.g0, .int .u16 a.g1, .int .u16 a.g2, .int .u16 a.g3, .int .u16 a.g4, .int .u16 a.g5, .int .u16 a.g6, .int .u16 a.g7, .int .i64 a.p] w5.heap.size 1 rfl rfl rfl (by simp)))
      simp only [List.length_cons, List.length_nil, Nat.zero_add, Nat.reduceAdd] at HX
      obtain ⟨⟨c_a_0, c_a_1, c_a_2, c_a_3, c_a_4, c_a_5, c_a_6, c_a_7, c_a_8, c_a_9⟩, f_a_0, f_a_1, f_a_2, f_a_3, f_a_4, f_a_5, f_a_6, f_a_7, f_a_8, f_a_9⟩ := box_10 Ha.out
      go_wp2_with fail
      with_reducible refine HX.out.mono ?_
      rintro e w6 ⟨rfl, hb⟩
      clear c_a_0 c_a_1 c_a_2 c_a_3 c_a_4 c_a_5 c_a_6 c_a_7 c_a_8 c_a_9 f_a_0 f_a_1 f_a_2 f_a_3 f_a_4 f_a_5 f_a_6 f_a_7 f_a_8 f_a_9
      clear HX
      replace hb := (below1 w5 (.cells #[.int .i8 a.f, .int .u16 a.g0, .int .u16 a.g1, .int .u16 a.g2, .int .u16 a.g3, .int .u16 a.g4, .int .u16 a.g5, .int .u16 a.g6, .int .u16 a.g7, .int .i64 a.p] 31)).trans (hb.mono (by simp))
      replace Hl := Lib.hid (Hl.out.below hb)
      replace Hh := Lib.hid (Hh.out.below hb)
      replace Hn := Lib.hid (Hn.out.below hb)
      replace Ha := Lib.hid ((hb.block _ (lt_of_block Ha.out)).trans Ha.out)
      replace HB := Lib.hid (HB.out.trans (hb.mono HB.out.size))
      clear hb
      have HX := Lib.hid (HHa.out N1 g (n + g) [a] a2 (some ⟨w6.heap.size, 0, none⟩) c2 1 false (w6.alloc (.cells #[.int .i8 a.f, .int .u16 a.g0, .int .u16 a.g1, .int .u16 a.g2, .int .u16 a.g3, .int .u16 a.g4, .int .u16 a.g5, .int .u16 a.g6, .int .u16 a.g7, .int .i64 a.p] 31)) hq3.out (by omega) (by simp) (Hn.out.below (below1 w6 (.cells #[.int .i8 a.f, .int .u16 a.g0, .int .u16 a.g1, .int .u16 a.g2, .int .u16 a.g3, .int .u16 a.g4, .int .u16 a.g5, .int .u16 a.g6, .int .u16 a.g7, .int .i64 a.p] 31))) (rowC_at (K := AK) w6 31 [a] #[.int .i8 a.f, .int .u16 a.g0, .int .u16 a.g1, .int .u16 a.g2, .int .u16 a.g3, .int .u16 a.g4, .int .u16 a.g5, .int .u16 a.g6, .int .u16 a.g7, .int .i64 a.p] w6.heap.size 1 rfl rfl rfl (by simp)))
      simp only [List.length_cons, List.length_nil, Nat.zero_add, Nat.reduceAdd] at HX
      obtain ⟨⟨c_a_0, c_a_1, c_a_2, c_a_3, c_a_4, c_a_5, c_a_6, c_a_7, c_a_8, c_a_9⟩, f_a_0, f_a_1, f_a_2, f_a_3, f_a_4, f_a_5, f_a_6, f_a_7, f_a_8, f_a_9⟩ := box_10 Ha.out
      go_wp2_with fail
      with_reducible refine HX.out.mono ?_
      rintro e w7 ⟨rfl, hb⟩
      clear c_a_0 c_a_1 c_a_2 c_a_3 c_a_4 c_a_5 c_a_6 c_a_7 c_a_8 c_a_9 f_a_0 f_a_1 f_a_2 f_a_3 f_a_4 f_a_5 f_a_6 f_a_7 f_a_8 f_a_9
      clear HX
      replace hb := (below1 w6 (.cells #[.int .i8 a.f, .int .u16 a.g0, .int .u16 a.g1, .int .u16 a.g2, .int .u16 a.g3, .int .u16 a.g4, .int .u16 a.g5, .int .u16 a.g6, .int .u16 a.g7, .int .i64 a.p] 31)).trans (hb.mono (by simp))
      replace Hl := Lib.hid (Hl.out.below hb)
      replace Hh := Lib.hid (Hh.out.below hb)
      replace Hn := Lib.hid (Hn.out.below hb)
      replace Ha := Lib.hid ((hb.block _ (lt_of_block Ha.out)).trans Ha.out)
      replace HB := Lib.hid (HB.out.trans (hb.mono HB.out.size))
      clear hb
      go_wp2_with fail
      with_reducible refine (HWk.out _).mono ?_
      rintro e wf ⟨rfl, hb⟩
      have HBf := Lib.hid (HB.out.trans (hb.mono HB.out.size))
      clear hb
      go_wp2_with fail
      go_ret
      exact ⟨rfl, HBf.out⟩
end Go.Proofs.Ytipbkhbdnjhofaa
