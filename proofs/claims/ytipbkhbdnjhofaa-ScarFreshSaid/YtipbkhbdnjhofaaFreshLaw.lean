/- ScarFresh walked. -/
import Derived.Test.YtipbkhbdnjhofaaLawB
set_option linter.unusedSimpArgs false
set_option linter.unusedVariables false
namespace Go.Proofs.Ytipbkhbdnjhofaa
open R3 Go.RowKit Go.Proofs.Ytipbkhbdnjhofaa.Kind

theorem worst_none {l : List Sc} {g n : Int} (h : freshS l g n = []) : worstA l g n = Ad.zero ∧ worstB l g n = false := by unfold worstA worstB worstS; rw [h]; exact ⟨rfl, rfl⟩
theorem worst_some {l : List Sc} {g n : Int} (h : freshS l g n ≠ []) : ∃ t : Int, (freshS l g n)[(freshS l g n).length - 1]? = some ⟨worstA l g n, t⟩ ∧ worstB l g n = true := by
  have e := List.getLast?_eq_getElem? (l := freshS l g n)
  cases hq : (freshS l g n).getLast? with
  | none => exact absurd (List.getLast?_eq_none_iff.1 hq) h
  | some x =>
    refine ⟨x.at_, ?_, by unfold worstB worstS; rw [hq]; rfl⟩
    rw [← e, hq]
    unfold worstA worstS
    rw [hq]
set_option maxHeartbeats 16000000 in
set_option maxRecDepth 1000000 in
theorem scarfresh_walk (HNo : NoteSpec) (HHe : HealSpec) (HFr : FreshSpec) (HHa : HasSpec) (HWo : WorstSpec) (HSa : SameSpec) (HWk : WakesSpec) (l : List Sc) (g n m : Int) (s : Option Addr) (c : Nat) (w : World) (hR : SK.RowC w s c l) :
    Calls Try.prog 5 #[.slice s l.length c, .int .i64 g, .int .i64 n, .int .i64 m] w fun e w' => e = .returned (.bool true) ∧ Below w.heap.size w w' := by
  have HNo := Lib.hid (fun l n ds s v c d L w h h1 h2 h3 h4 => HNo l n ds s v c d L w h h1 h2 h3 h4)
  have HHe := Lib.hid (fun l ds s v c d L w h h1 h2 h3 h4 => HHe l ds s v c d L w h h1 h2 h3 h4)
  have HFr := Lib.hid (fun l g n s c L w h h1 h2 => HFr l g n s c L w h h1 h2)
  have HHa := Lib.hid (fun l g n ds s v c d r w h h1 h2 h3 h4 => HHa l g n ds s v c d r w h h1 h2 h3 h4)
  have HWo := Lib.hid (fun l g n s c x r w h h1 h2 h3 => HWo l g n s c x r w h h1 h2 h3)
  have HSa := Lib.hid (fun l m a b c d r w h h1 h2 h3 h4 => HSa l m a b c d r w h h1 h2 h3 h4)
  have HWk := Lib.hid (fun w => HWk w)
  have HB := Lib.hid (Below.refl w.heap.size w)
  have Hl := Lib.hid hR
  have hmx : l.length ≤ 9223372036854775807 := by have h1 := hR.1; have h2 := hR.2.1; unfold maxLen at h2; omega
  clear hR
  go_enter Try.func5, Try.ntmps5
  have HG := Lib.hid (rgreat_any l s c _ w rfl hmx)
  by_cases hgr : 100 < l.length
  · rw [decide_eq_true hgr] at HG
    go_wp2_with fail
    (with_reducible refine HG.out.mono ?_)
    rintro e w1 ⟨rfl, hw1⟩
    subst w1
    go_wp2_with fail
    with_reducible refine (HWk.out _).mono ?_
    rintro e wf ⟨rfl, hb⟩
    have HBf := Lib.hid (HB.out.trans (hb.mono HB.out.size))
    clear hb
    go_wp2_with fail
    go_ret
    exact ⟨rfl, HBf.out⟩
  rw [decide_eq_false hgr] at HG
  have hll : l.length ≤ 100 := by omega
  by_cases hmn : m < n
  · have hd := decide_eq_true hmn
    go_wp2_with fail
    (with_reducible refine HG.out.mono ?_)
    rintro e w1 ⟨rfl, hw1⟩
    subst w1
    go_wp2_with fail
    with_reducible refine (HWk.out _).mono ?_
    rintro e wf ⟨rfl, hb⟩
    have HBf := Lib.hid (HB.out.trans (hb.mono HB.out.size))
    clear hb
    go_wp2_with fail
    go_ret
    exact ⟨rfl, HBf.out⟩
  have hmnd := decide_eq_false hmn
  go_wp2_with fail
  (with_reducible refine HG.out.mono ?_)
  rintro e w1 ⟨rfl, hw1⟩
  subst w1
  clear HG hgr hmnd
  obtain ⟨A, hA⟩ : ∃ A, A = freshS l g n := ⟨_, rfl⟩
  obtain ⟨B, hB⟩ : ∃ B, B = freshS l g m := ⟨_, rfl⟩
  have hAl : A.length ≤ l.length := by rw [hA]; exact fresh_len _ _ _
  have hBl : B.length ≤ l.length := by rw [hB]; exact fresh_len _ _ _
  have hsub : List.Sublist B A := by rw [hA, hB]; exact fresh_later l g (by omega)
  replace hA := Lib.hid hA
  replace hB := Lib.hid hB
  replace hsub := Lib.hid hsub
  have HX := Lib.hid (HFr.out l g n s c A w hA.out (by omega) Hl.out)
  go_wp2_with fail
  with_reducible refine HX.out.mono ?_
  rintro e w1 ⟨a1, c1, rfl, hR, hb⟩
  clear HX
  replace Hl := Lib.hid (Hl.out.below hb)
  replace HB := Lib.hid (HB.out.trans (hb.mono HB.out.size))
  clear hb
  have Ha := Lib.hid hR
  clear hR
  have HX := Lib.hid (HFr.out l g m s c B w1 hB.out (by omega) Hl.out)
  go_wp2_with fail
  with_reducible refine HX.out.mono ?_
  rintro e w2 ⟨a2, c2, rfl, hR, hb⟩
  clear HX
  replace Hl := Lib.hid (Hl.out.below hb)
  replace Ha := Lib.hid (Ha.out.below hb)
  replace HB := Lib.hid (HB.out.trans (hb.mono HB.out.size))
  clear hb
  have Hb := Lib.hid hR
  clear hR
  go_wp2_with fail
  go_loopw [11, 12] (fun k i wr => ∃ (q e : Nat), k = .int .i64 e ∧ i = .int .i64 q ∧ q ≤ A.length ∧ e ≤ B.length ∧ Hid (List.Sublist (B.drop e) (A.drop q)) ∧ Hid (Below w2.heap.size w2 wr)) (fun _ i _ => A.length - (intOf i).toNat)
  case atStart => exact ⟨0, 0, rfl, rfl, by omega, by omega, hsub, Lib.hid (Below.refl _ _)⟩
  case round =>
    obtain ⟨q, e, rfl, rfl, hq, he, hs0, hb0⟩ := hrel
    have HS := Lib.hid hs0.out
    have hb := hb0.out
    clear hs0 hb0
    have HBr := Lib.hid hb
    replace Hl := Lib.hid (Hl.out.below hb)
    replace Ha := Lib.hid (Ha.out.below hb)
    replace Hb := Lib.hid (Hb.out.below hb)
    replace HB := Lib.hid (HB.out.trans (hb.mono HB.out.size))
    clear hb
    by_cases hend : q < A.length ∧ e < B.length
    · obtain ⟨h1, h2⟩ := hend
      obtain ⟨x, hx⟩ : ∃ x, A[q]? = some x := ⟨_, List.getElem?_eq_getElem h1⟩
      obtain ⟨y, hy⟩ : ∃ y, B[e]? = some y := ⟨_, List.getElem?_eq_getElem h2⟩
      obtain ⟨b1, o1, rfl, hb1, hat1⟩ := Ha.out.2.2.2 (by omega)
      obtain ⟨b2, o2, rfl, hb2, hat2⟩ := Hb.out.2.2.2 (by omega)
      obtain ⟨d0, d1, d2, d3, d4, d5, d6, d7, d8, d9, d10⟩ := SK.cells hat1 hx
      obtain ⟨k0, k1, k2, k3, k4, k5, k6, k7, k8, k9, k10⟩ := SK.cells hat2 hy
      have hE := eql_sc x y
      have hgs := guard_sc
      have h1i : (q : Int) < (A.length : Int) := by omega
      have h2i : (e : Int) < (B.length : Int) := by omega
      have h10 : (0 : Int) ≤ (q : Int) := by omega
      have h20 : (0 : Int) ≤ (e : Int) := by omega
      have h1d : decide ((q : Int) < (A.length : Int)) = true := decide_eq_true h1i
      have h2d : decide ((e : Int) < (B.length : Int)) = true := decide_eq_true h2i
      by_cases hxy : x = y
      · rw [decide_eq_true hxy] at hE
        have HN := Lib.hid (sub_yes HS.out hx (hxy ▸ hy))
        clear hx hy hat1 hat2 hxy
        go_wp2_with fail
        go_quiet (fail)
        go_wp2_with fail
        go_roundw
        case rel => exact ⟨q + 1, e + 1, by go_num, by go_num, by omega, by omega, HN, Lib.hid (below_drewN HBr.out _)⟩
        case measure => simp [intOf]; omega
      · rw [decide_eq_false hxy] at hE
        have HN := Lib.hid (sub_no HS.out hx hy hxy)
        clear hx hy hat1 hat2 hxy
        go_wp2_with fail
        go_quiet (fail)
        go_wp2_with fail
        go_roundw
        case rel => exact ⟨q + 1, e, rfl, by go_num, by omega, by omega, HN, Lib.hid (below_drewN HBr.out _)⟩
        case measure => simp [intOf]; omega
    · have hee : e = B.length := by
        by_cases h1 : A.length ≤ q
        · have := sub_end HS.out h1; omega
        · omega
      obtain ⟨ya, hya⟩ : ∃ ya, ya = worstA l g n := ⟨_, rfl⟩
      obtain ⟨yb, hyb⟩ : ∃ yb, yb = worstB l g n := ⟨_, rfl⟩
      have HW1 := Lib.hid (fun (h : A = []) => worst_none (l := l) (g := g) (n := n) (hA.out ▸ h))
      have HW2 := Lib.hid (fun (h : A ≠ []) => worst_some (l := l) (g := g) (n := n) (hA.out ▸ h))
      rw [← hA.out, ← hya, ← hyb] at HW2
      rw [← hyb] at HW1
      replace hya := Lib.hid hya
      replace hyb := Lib.hid hyb
      have hcase : (q < A.length ∧ decide ((q : Int) < (A.length : Int)) = true ∧ decide ((B.length : Int) < (B.length : Int)) = false) ∨ (¬ q < A.length ∧ decide ((q : Int) < (A.length : Int)) = false) := by
        by_cases h : q < A.length
        · exact .inl ⟨h, decide_eq_true (by omega), decide_eq_false (by omega)⟩
        · exact .inr ⟨h, decide_eq_false (by omega)⟩
      subst hee
      rcases hcase with ⟨h3, h4, h5⟩ | ⟨h3, h4⟩
      · clear hend HS
        have HX := Lib.hid (HWo.out l g n s c ya yb wr hya.out hyb.out (by omega) Hl.out)
        simp only [Ad.v] at HX
        go_wp2_with fail
        with_reducible refine HX.out.mono ?_
        rintro e w3 ⟨rfl, hb⟩
        clear HX
        replace Hl := Lib.hid (Hl.out.below hb)
        replace Ha := Lib.hid (Ha.out.below hb)
        replace Hb := Lib.hid (Hb.out.below hb)
        replace HB := Lib.hid (HB.out.trans (hb.mono HB.out.size))
        clear hb
        simp only [Ad.v]
        go_upto_region 11 with fail
        obtain ⟨q4, hq4⟩ : ∃ X, X = w3.alloc (.cells #[.int .i8 ya.f, .int .u16 ya.g0, .int .u16 ya.g1, .int .u16 ya.g2, .int .u16 ya.g3, .int .u16 ya.g4, .int .u16 ya.g5, .int .u16 ya.g6, .int .u16 ya.g7, .int .i64 ya.p] 31) := ⟨_, rfl⟩
        have hb : Below w3.heap.size w3 q4 := by rw [hq4]; exact below1 _ _
        have hL := laid1 w3 (.cells #[.int .i8 ya.f, .int .u16 ya.g0, .int .u16 ya.g1, .int .u16 ya.g2, .int .u16 ya.g3, .int .u16 ya.g4, .int .u16 ya.g5, .int .u16 ya.g6, .int .u16 ya.g7, .int .i64 ya.p] 31)
        rw [← hq4] at hL ⊢
        clear hq4
        obtain ⟨bwy, hbwy⟩ : ∃ n, n = w3.heap.size := ⟨_, rfl⟩
        rw [← hbwy] at hL ⊢
        have hswy : w.heap.size ≤ bwy := by rw [hbwy]; exact HB.out.size
        clear hbwy
        replace Hl := Lib.hid (Hl.out.below hb)
        replace Ha := Lib.hid (Ha.out.below hb)
        replace Hb := Lib.hid (Hb.out.below hb)
        replace HB := Lib.hid (HB.out.trans (hb.mono HB.out.size))
        clear hb
        have Hwy := Lib.hid hL
        clear hL
        clear h3 h4 h5
        have hALd : decide ((A.length : Int) ≤ (l.length : Int)) = true := decide_eq_true (by omega)
        have hALd2 : (A.length : Int) ≤ (l.length : Int) := by omega
        by_cases hA0 : A = []
        · obtain rfl : yb = false := (HW1.out hA0).2
          subst hA0
          clear HW1 HW2
          have hz : decide ((0 : Int) < (([] : List Sc).length : Int)) = false := rfl
          refine ByOps.region_by_sk (by kernel_rfl) (ByOps.facts [.val (.int .i64 (B.length : Int)), .val (.slice a2 B.length c2), .val (.int .i64 (B.length : Int)), .val (.bool true), .val (.bool true), .val (.bool false), .val (.slice a1 ([] : List Sc).length c1), .val (.int .i64 (([] : List Sc).length : Int)), .val (.bool false), .val (.bool true), .val (.bool true), .val (.bool true), .val (.bool false), .val (.bool true), .val (.bool true), .un, .un, .un, .un, .un, .un, .un, .un, .un, .val (.bool true), .val (.bool true), .val (.bool true), .val (.slice a1 ([] : List Sc).length c1), .val (.int .i64 (([] : List Sc).length : Int)), .val (.slice s l.length c), .val (.int .i64 (l.length : Int)), .val (.bool true), .val (.bool true), .val (.bool true), .val (.bool true), .val (.bool true), .val (.bool true)]) (ByOps.facts_up _) (by kernel_rfl) (fun i => i == 15 || i == 16 || i == 17 || i == 18 || i == 19 || i == 20 || i == 21 || i == 22 || i == 23) (ByOps.all_ops ?_) (ByOps.all_ops ?_) (ByOps.all_ops ?_) ?_
          · refine ⟨?_, ?_, ?_, ?_, ?_, ?_, ?_, ?_, ?_, ?_, ?_, ?_, ?_, ?_, ?_, ?_, ?_, ?_, ?_, ?_, ?_, ?_, ?_, ?_, ?_, ?_, ?_, ?_, ?_, ?_, ?_, ?_, ?_, ?_, ?_, ?_, ?_, trivial⟩
            · intro _ ρ w9 hB hs
              have hBB : Below q4.heap.size q4 w9 := ⟨hB.os, hB.tape, hB.output, hB.size, hB.block⟩
              have h11 : ρ (.tmp 11) = .int .i64 (B.length : Int) := (hs _ (by simp [Op.operands, Call.operands])).2 (fun t ht => by cases ht; kernel_rfl)
              exact ByOps.runs_value (by first | rfl | go_simp) (Below.refl _ _) h11
            · intro _ ρ w9 hB hs
              have hBB : Below q4.heap.size q4 w9 := ⟨hB.os, hB.tape, hB.output, hB.size, hB.block⟩
              have h10 : ρ (.tmp 10) = .slice a2 B.length c2 := (hs _ (by simp [Op.operands, Call.operands])).2 (fun t ht => by cases ht; kernel_rfl)
              exact ByOps.runs_value (by first | rfl | go_simp) (Below.refl _ _) h10
            · intro _ ρ w9 hB hs
              have hBB : Below q4.heap.size q4 w9 := ⟨hB.os, hB.tape, hB.output, hB.size, hB.block⟩
              have h62 : ρ (.tmp 62) = .slice a2 B.length c2 := (hs (.tmp 62) (by simp [Op.operands, Call.operands])).1 62 rfl 1 _ rfl rfl
              exact ByOps.runs_value (v := .int .i64 (B.length : Int)) (by first | rfl | go_simp) (Below.refl _ _) rfl
            · intro _ ρ w9 hB hs
              have hBB : Below q4.heap.size q4 w9 := ⟨hB.os, hB.tape, hB.output, hB.size, hB.block⟩
              have h61 : ρ (.tmp 61) = .int .i64 (B.length : Int) := (hs (.tmp 61) (by simp [Op.operands, Call.operands])).1 61 rfl 0 _ rfl rfl
              have h63 : ρ (.tmp 63) = .int .i64 (B.length : Int) := (hs (.tmp 63) (by simp [Op.operands, Call.operands])).1 63 rfl 2 _ rfl rfl
              exact ByOps.runs_value (v := .bool true) (by first | rfl | go_simp) (Below.refl _ _) rfl
            · intro _ ρ w9 hB hs
              have hBB : Below q4.heap.size q4 w9 := ⟨hB.os, hB.tape, hB.output, hB.size, hB.block⟩
              have h64 : ρ (.tmp 64) = .bool true := (hs (.tmp 64) (by simp [Op.operands, Call.operands])).1 64 rfl 3 _ rfl rfl
              exact ByOps.runs_value (by first | rfl | go_simp) (Below.refl _ _) h64
            · intro _ ρ w9 hB hs
              have hBB : Below q4.heap.size q4 w9 := ⟨hB.os, hB.tape, hB.output, hB.size, hB.block⟩
              have h14 : ρ (.tmp 14) = .bool false := (hs _ (by simp [Op.operands, Call.operands])).2 (fun t ht => by cases ht; kernel_rfl)
              exact ByOps.runs_value (by first | rfl | go_simp) (Below.refl _ _) h14
            · intro _ ρ w9 hB hs
              have hBB : Below q4.heap.size q4 w9 := ⟨hB.os, hB.tape, hB.output, hB.size, hB.block⟩
              have h9 : ρ (.tmp 9) = .slice a1 ([] : List Sc).length c1 := (hs _ (by simp [Op.operands, Call.operands])).2 (fun t ht => by cases ht; kernel_rfl)
              exact ByOps.runs_value (by first | rfl | go_simp) (Below.refl _ _) h9
            · intro _ ρ w9 hB hs
              have hBB : Below q4.heap.size q4 w9 := ⟨hB.os, hB.tape, hB.output, hB.size, hB.block⟩
              have h67 : ρ (.tmp 67) = .slice a1 ([] : List Sc).length c1 := (hs (.tmp 67) (by simp [Op.operands, Call.operands])).1 67 rfl 6 _ rfl rfl
              exact ByOps.runs_value (v := .int .i64 (([] : List Sc).length : Int)) (by first | rfl | go_simp) (Below.refl _ _) rfl
            · intro _ ρ w9 hB hs
              have hBB : Below q4.heap.size q4 w9 := ⟨hB.os, hB.tape, hB.output, hB.size, hB.block⟩
              have h68 : ρ (.tmp 68) = .int .i64 (([] : List Sc).length : Int) := (hs (.tmp 68) (by simp [Op.operands, Call.operands])).1 68 rfl 7 _ rfl rfl
              have hk : ρ (.const (.int .i64 0)) = .int .i64 0 := (hs _ (by simp [Op.operands, Call.operands])).2 (fun t ht => by cases ht)
              exact ByOps.runs_value (v := .bool false) (by first | rfl | go_simp) (Below.refl _ _) rfl
            · intro _ ρ w9 hB hs
              have hBB : Below q4.heap.size q4 w9 := ⟨hB.os, hB.tape, hB.output, hB.size, hB.block⟩
              have h66 : ρ (.tmp 66) = .bool false := (hs (.tmp 66) (by simp [Op.operands, Call.operands])).1 66 rfl 5 _ rfl rfl
              have h69 : ρ (.tmp 69) = .bool false := (hs (.tmp 69) (by simp [Op.operands, Call.operands])).1 69 rfl 8 _ rfl rfl
              exact ByOps.runs_value (v := .bool true) (by first | rfl | go_simp) (Below.refl _ _) rfl
            · intro _ ρ w9 hB hs
              have hBB : Below q4.heap.size q4 w9 := ⟨hB.os, hB.tape, hB.output, hB.size, hB.block⟩
              have h65 : ρ (.tmp 65) = .bool true := (hs (.tmp 65) (by simp [Op.operands, Call.operands])).1 65 rfl 4 _ rfl rfl
              have h70 : ρ (.tmp 70) = .bool true := (hs (.tmp 70) (by simp [Op.operands, Call.operands])).1 70 rfl 9 _ rfl rfl
              exact ByOps.runs_value (v := .bool true) (by first | rfl | go_simp) (Below.refl _ _) rfl
            · intro _ ρ w9 hB hs
              have hBB : Below q4.heap.size q4 w9 := ⟨hB.os, hB.tape, hB.output, hB.size, hB.block⟩
              have h71 : ρ (.tmp 71) = .bool true := (hs (.tmp 71) (by simp [Op.operands, Call.operands])).1 71 rfl 10 _ rfl rfl
              exact ByOps.runs_value (by first | rfl | go_simp) (Below.refl _ _) h71
            · intro _ ρ w9 hB hs
              have hBB : Below q4.heap.size q4 w9 := ⟨hB.os, hB.tape, hB.output, hB.size, hB.block⟩
              have h14 : ρ (.tmp 14) = .bool false := (hs _ (by simp [Op.operands, Call.operands])).2 (fun t ht => by cases ht; kernel_rfl)
              exact ByOps.runs_value (by first | rfl | go_simp) (Below.refl _ _) h14
            · intro _ ρ w9 hB hs
              have hBB : Below q4.heap.size q4 w9 := ⟨hB.os, hB.tape, hB.output, hB.size, hB.block⟩
              have h73 : ρ (.tmp 73) = .bool false := (hs (.tmp 73) (by simp [Op.operands, Call.operands])).1 73 rfl 12 _ rfl rfl
              exact ByOps.runs_value (v := .bool true) (by first | rfl | go_simp) (Below.refl _ _) rfl
            · intro _ ρ w9 hB hs
              have hBB : Below q4.heap.size q4 w9 := ⟨hB.os, hB.tape, hB.output, hB.size, hB.block⟩
              have h74 : ρ (.tmp 74) = .bool true := (hs (.tmp 74) (by simp [Op.operands, Call.operands])).1 74 rfl 13 _ rfl rfl
              exact ByOps.runs_value (by first | rfl | go_simp) (Below.refl _ _) h74
            · intro hs0; cases hs0
            · intro hs0; cases hs0
            · intro hs0; cases hs0
            · intro hs0; cases hs0
            · intro hs0; cases hs0
            · intro hs0; cases hs0
            · intro hs0; cases hs0
            · intro hs0; cases hs0
            · intro hs0; cases hs0
            · intro _ ρ w9 hB hs
              have hBB : Below q4.heap.size q4 w9 := ⟨hB.os, hB.tape, hB.output, hB.size, hB.block⟩
              have h75 : ρ (.tmp 75) = .bool true := (hs (.tmp 75) (by simp [Op.operands, Call.operands])).1 75 rfl 14 _ rfl rfl
              have hk : ρ (.const (.bool true)) = .bool true := (hs _ (by simp [Op.operands, Call.operands])).2 (fun t ht => by cases ht)
              exact ByOps.runs_value (v := .bool true) (by first | rfl | go_simp) (Below.refl _ _) rfl
            · intro _ ρ w9 hB hs
              have hBB : Below q4.heap.size q4 w9 := ⟨hB.os, hB.tape, hB.output, hB.size, hB.block⟩
              have h72 : ρ (.tmp 72) = .bool true := (hs (.tmp 72) (by simp [Op.operands, Call.operands])).1 72 rfl 11 _ rfl rfl
              have h85 : ρ (.tmp 85) = .bool true := (hs (.tmp 85) (by simp [Op.operands, Call.operands])).1 85 rfl 24 _ rfl rfl
              exact ByOps.runs_value (v := .bool true) (by first | rfl | go_simp) (Below.refl _ _) rfl
            · intro _ ρ w9 hB hs
              have hBB : Below q4.heap.size q4 w9 := ⟨hB.os, hB.tape, hB.output, hB.size, hB.block⟩
              have h86 : ρ (.tmp 86) = .bool true := (hs (.tmp 86) (by simp [Op.operands, Call.operands])).1 86 rfl 25 _ rfl rfl
              exact ByOps.runs_value (by first | rfl | go_simp) (Below.refl _ _) h86
            · intro _ ρ w9 hB hs
              have hBB : Below q4.heap.size q4 w9 := ⟨hB.os, hB.tape, hB.output, hB.size, hB.block⟩
              have h9 : ρ (.tmp 9) = .slice a1 ([] : List Sc).length c1 := (hs _ (by simp [Op.operands, Call.operands])).2 (fun t ht => by cases ht; kernel_rfl)
              exact ByOps.runs_value (by first | rfl | go_simp) (Below.refl _ _) h9
            · intro _ ρ w9 hB hs
              have hBB : Below q4.heap.size q4 w9 := ⟨hB.os, hB.tape, hB.output, hB.size, hB.block⟩
              have h88 : ρ (.tmp 88) = .slice a1 ([] : List Sc).length c1 := (hs (.tmp 88) (by simp [Op.operands, Call.operands])).1 88 rfl 27 _ rfl rfl
              exact ByOps.runs_value (v := .int .i64 (([] : List Sc).length : Int)) (by first | rfl | go_simp) (Below.refl _ _) rfl
            · intro _ ρ w9 hB hs
              have hBB : Below q4.heap.size q4 w9 := ⟨hB.os, hB.tape, hB.output, hB.size, hB.block⟩
              have h0 : ρ (.tmp 0) = .slice s l.length c := (hs _ (by simp [Op.operands, Call.operands])).2 (fun t ht => by cases ht; kernel_rfl)
              exact ByOps.runs_value (by first | rfl | go_simp) (Below.refl _ _) h0
            · intro _ ρ w9 hB hs
              have hBB : Below q4.heap.size q4 w9 := ⟨hB.os, hB.tape, hB.output, hB.size, hB.block⟩
              have h90 : ρ (.tmp 90) = .slice s l.length c := (hs (.tmp 90) (by simp [Op.operands, Call.operands])).1 90 rfl 29 _ rfl rfl
              exact ByOps.runs_value (v := .int .i64 (l.length : Int)) (by first | rfl | go_simp) (Below.refl _ _) rfl
            · intro _ ρ w9 hB hs
              have hBB : Below q4.heap.size q4 w9 := ⟨hB.os, hB.tape, hB.output, hB.size, hB.block⟩
              have h89 : ρ (.tmp 89) = .int .i64 (([] : List Sc).length : Int) := (hs (.tmp 89) (by simp [Op.operands, Call.operands])).1 89 rfl 28 _ rfl rfl
              have h91 : ρ (.tmp 91) = .int .i64 (l.length : Int) := (hs (.tmp 91) (by simp [Op.operands, Call.operands])).1 91 rfl 30 _ rfl rfl
              exact ByOps.runs_value (v := .bool true) (by first | rfl | go_simp) (Below.refl _ _) rfl
            · intro _ ρ w9 hB hs
              have hBB : Below q4.heap.size q4 w9 := ⟨hB.os, hB.tape, hB.output, hB.size, hB.block⟩
              have h87 : ρ (.tmp 87) = .bool true := (hs (.tmp 87) (by simp [Op.operands, Call.operands])).1 87 rfl 26 _ rfl rfl
              have h92 : ρ (.tmp 92) = .bool true := (hs (.tmp 92) (by simp [Op.operands, Call.operands])).1 92 rfl 31 _ rfl rfl
              exact ByOps.runs_value (v := .bool true) (by first | rfl | go_simp) (Below.refl _ _) rfl
            · intro _ ρ w9 hB hs
              have hBB : Below q4.heap.size q4 w9 := ⟨hB.os, hB.tape, hB.output, hB.size, hB.block⟩
              have h93 : ρ (.tmp 93) = .bool true := (hs (.tmp 93) (by simp [Op.operands, Call.operands])).1 93 rfl 32 _ rfl rfl
              exact ByOps.runs_value (by first | rfl | go_simp) (Below.refl _ _) h93
            · intro _ ρ w9 hB hs
              have hBB : Below q4.heap.size q4 w9 := ⟨hB.os, hB.tape, hB.output, hB.size, hB.block⟩
              have hfn : ρ (.func 8) = .func (.func 8) #[] #[] := (hs _ (by simp [Op.operands, Call.operands])).2 (fun t ht => by cases ht)
              refine ByOps.runs_enter (f := 8) (args := #[]) (by go_simp) ?_
              exact (HWk.out w9).mono fun e w2 ⟨he, hb⟩ => ⟨_, he, hb, rfl⟩
            · intro _ ρ w9 hB hs
              have hBB : Below q4.heap.size q4 w9 := ⟨hB.os, hB.tape, hB.output, hB.size, hB.block⟩
              have h94 : ρ (.tmp 94) = .bool true := (hs (.tmp 94) (by simp [Op.operands, Call.operands])).1 94 rfl 33 _ rfl rfl
              have h95 : ρ (.tmp 95) = .bool true := (hs (.tmp 95) (by simp [Op.operands, Call.operands])).1 95 rfl 34 _ rfl rfl
              exact ByOps.runs_value (v := .bool true) (by first | rfl | go_simp) (Below.refl _ _) rfl
            · intro _ ρ w9 hB hs
              have hBB : Below q4.heap.size q4 w9 := ⟨hB.os, hB.tape, hB.output, hB.size, hB.block⟩
              have h96 : ρ (.tmp 96) = .bool true := (hs (.tmp 96) (by simp [Op.operands, Call.operands])).1 96 rfl 35 _ rfl rfl
              exact ByOps.runs_value (by first | rfl | go_simp) (Below.refl _ _) h96
          · refine ⟨?_, ?_, ?_, ?_, ?_, ?_, ?_, ?_, ?_, ?_, ?_, ?_, ?_, ?_, ?_, ?_, ?_, ?_, ?_, ?_, ?_, ?_, ?_, ?_, ?_, ?_, ?_, ?_, ?_, ?_, ?_, ?_, ?_, ?_, ?_, ?_, ?_, trivial⟩
            all_goals first | (intro hs0; cases hs0; done) | (intro _; exact ⟨by simp, fun _ => rfl⟩)
          · refine ⟨?_, ?_, ?_, ?_, ?_, ?_, ?_, ?_, ?_, ?_, ?_, ?_, ?_, ?_, ?_, ?_, ?_, ?_, ?_, ?_, ?_, ?_, ?_, ?_, ?_, ?_, ?_, ?_, ?_, ?_, ?_, ?_, ?_, ?_, ?_, ?_, ?_, trivial⟩
            all_goals first | (intro g b h; cases h; done) | (intro g b h; cases h; intro v w h; exact ⟨fun h0 => (by first | exact h | cases h0), fun h0 => (by first | cases h0; done | exact .inl h | exact .inr h)⟩)
          · intro a9 w9 hd9 hs9 ho9 hn9 hB9
            obtain ⟨v0, e0, p0⟩ := hn9 0 _ 61 rfl rfl
            obtain ⟨v1, e1, p1⟩ := hn9 1 _ 62 rfl rfl
            obtain ⟨v2, e2, p2⟩ := hn9 2 _ 63 rfl rfl
            obtain ⟨v3, e3, p3⟩ := hn9 3 _ 64 rfl rfl
            obtain ⟨v4, e4, p4⟩ := hn9 4 _ 65 rfl rfl
            obtain ⟨v5, e5, p5⟩ := hn9 5 _ 66 rfl rfl
            obtain ⟨v6, e6, p6⟩ := hn9 6 _ 67 rfl rfl
            obtain ⟨v7, e7, p7⟩ := hn9 7 _ 68 rfl rfl
            obtain ⟨v8, e8, p8⟩ := hn9 8 _ 69 rfl rfl
            obtain ⟨v9, e9, p9⟩ := hn9 9 _ 70 rfl rfl
            obtain ⟨v10, e10, p10⟩ := hn9 10 _ 71 rfl rfl
            obtain ⟨v11, e11, p11⟩ := hn9 11 _ 72 rfl rfl
            obtain ⟨v12, e12, p12⟩ := hn9 12 _ 73 rfl rfl
            obtain ⟨v13, e13, p13⟩ := hn9 13 _ 74 rfl rfl
            obtain ⟨v14, e14, p14⟩ := hn9 14 _ 75 rfl rfl
            obtain ⟨v15, e15, p15⟩ := hn9 15 _ 76 rfl rfl
            obtain ⟨v16, e16, p16⟩ := hn9 16 _ 77 rfl rfl
            obtain ⟨v17, e17, p17⟩ := hn9 17 _ 78 rfl rfl
            obtain ⟨v18, e18, p18⟩ := hn9 18 _ 79 rfl rfl
            obtain ⟨v19, e19, p19⟩ := hn9 19 _ 80 rfl rfl
            obtain ⟨v20, e20, p20⟩ := hn9 20 _ 81 rfl rfl
            obtain ⟨v21, e21, p21⟩ := hn9 21 _ 82 rfl rfl
            obtain ⟨v22, e22, p22⟩ := hn9 22 _ 83 rfl rfl
            obtain ⟨v23, e23, p23⟩ := hn9 23 _ 84 rfl rfl
            obtain ⟨v24, e24, p24⟩ := hn9 24 _ 85 rfl rfl
            obtain ⟨v25, e25, p25⟩ := hn9 25 _ 86 rfl rfl
            obtain ⟨v26, e26, p26⟩ := hn9 26 _ 87 rfl rfl
            obtain ⟨v27, e27, p27⟩ := hn9 27 _ 88 rfl rfl
            obtain ⟨v28, e28, p28⟩ := hn9 28 _ 89 rfl rfl
            obtain ⟨v29, e29, p29⟩ := hn9 29 _ 90 rfl rfl
            obtain ⟨v30, e30, p30⟩ := hn9 30 _ 91 rfl rfl
            obtain ⟨v31, e31, p31⟩ := hn9 31 _ 92 rfl rfl
            obtain ⟨v32, e32, p32⟩ := hn9 32 _ 93 rfl rfl
            obtain ⟨v33, e33, p33⟩ := hn9 33 _ 94 rfl rfl
            obtain ⟨v34, e34, p34⟩ := hn9 34 _ 95 rfl rfl
            obtain ⟨v35, e35, p35⟩ := hn9 35 _ 96 rfl rfl
            obtain ⟨v36, e36, p36⟩ := hn9 36 _ 8 rfl rfl
            obtain rfl : v0 = .int .i64 (B.length : Int) := p0
            obtain rfl : v1 = .slice a2 B.length c2 := p1
            obtain rfl : v2 = .int .i64 (B.length : Int) := p2
            obtain rfl : v3 = .bool true := p3
            obtain rfl : v4 = .bool true := p4
            obtain rfl : v5 = .bool false := p5
            obtain rfl : v6 = .slice a1 ([] : List Sc).length c1 := p6
            obtain rfl : v7 = .int .i64 (([] : List Sc).length : Int) := p7
            obtain rfl : v8 = .bool false := p8
            obtain rfl : v9 = .bool true := p9
            obtain rfl : v10 = .bool true := p10
            obtain rfl : v11 = .bool true := p11
            obtain rfl : v12 = .bool false := p12
            obtain rfl : v13 = .bool true := p13
            obtain rfl : v14 = .bool true := p14
            obtain rfl : v15 = undef := p15
            obtain rfl : v16 = undef := p16
            obtain rfl : v17 = undef := p17
            obtain rfl : v18 = undef := p18
            obtain rfl : v19 = undef := p19
            obtain rfl : v20 = undef := p20
            obtain rfl : v21 = undef := p21
            obtain rfl : v22 = undef := p22
            obtain rfl : v23 = undef := p23
            obtain rfl : v24 = .bool true := p24
            obtain rfl : v25 = .bool true := p25
            obtain rfl : v26 = .bool true := p26
            obtain rfl : v27 = .slice a1 ([] : List Sc).length c1 := p27
            obtain rfl : v28 = .int .i64 (([] : List Sc).length : Int) := p28
            obtain rfl : v29 = .slice s l.length c := p29
            obtain rfl : v30 = .int .i64 (l.length : Int) := p30
            obtain rfl : v31 = .bool true := p31
            obtain rfl : v32 = .bool true := p32
            obtain rfl : v33 = .bool true := p33
            obtain rfl : v34 = .bool true := p34
            obtain rfl : v35 = .bool true := p35
            obtain rfl : v36 = .bool true := p36
            have ha := ByOps.act_eq [(61, .int .i64 (B.length : Int)), (62, .slice a2 B.length c2), (63, .int .i64 (B.length : Int)), (64, .bool true), (65, .bool true), (66, .bool false), (67, .slice a1 ([] : List Sc).length c1), (68, .int .i64 (([] : List Sc).length : Int)), (69, .bool false), (70, .bool true), (71, .bool true), (72, .bool true), (73, .bool false), (74, .bool true), (75, .bool true), (76, undef), (77, undef), (78, undef), (79, undef), (80, undef), (81, undef), (82, undef), (83, undef), (84, undef), (85, .bool true), (86, .bool true), (87, .bool true), (88, .slice a1 ([] : List Sc).length c1), (89, .int .i64 (([] : List Sc).length : Int)), (90, .slice s l.length c), (91, .int .i64 (l.length : Int)), (92, .bool true), (93, .bool true), (94, .bool true), (95, .bool true), (96, .bool true), (8, .bool true)] a9 _ hd9 hs9 (fun t ht => ho9 t (ByOps.outer_of (ts := [61, 62, 63, 64, 65, 66, 67, 68, 69, 70, 71, 72, 73, 74, 75, 76, 77, 78, 79, 80, 81, 82, 83, 84, 85, 86, 87, 88, 89, 90, 91, 92, 93, 94, 95, 96, 8]) rfl ht)) (by intro p hp; simp only [List.mem_cons, List.not_mem_nil, or_false] at hp; rcases hp with rfl | rfl | rfl | rfl | rfl | rfl | rfl | rfl | rfl | rfl | rfl | rfl | rfl | rfl | rfl | rfl | rfl | rfl | rfl | rfl | rfl | rfl | rfl | rfl | rfl | rfl | rfl | rfl | rfl | rfl | rfl | rfl | rfl | rfl | rfl | rfl | rfl <;> assumption)
            rw [ha]
            clear ha hn9 ho9 hs9 hd9 e0 e1 e2 e3 e4 e5 e6 e7 e8 e9 e10 e11 e12 e13 e14 e15 e16 e17 e18 e19 e20 e21 e22 e23 e24 e25 e26 e27 e28 e29 e30 e31 e32 e33 e34 e35 e36
            simp only [List.foldl, Act.put, List.setIfInBounds_toArray, List.set_cons_zero, List.set_cons_succ]
            have hb9 : Below q4.heap.size q4 w9 := ⟨hB9.os, hB9.tape, hB9.output, hB9.size, hB9.block⟩
            clear hB9
            have hbf := HB.out.trans (hb9.mono HB.out.size)
            go_wp2_with fail
            go_ret
            exact ⟨rfl, hbf⟩
        · obtain ⟨tt, hlast, hyt⟩ := HW2.out hA0
          subst hyt
          obtain ⟨G, hG⟩ : ∃ G : Nat, A.length = G + 1 := ⟨A.length - 1, by have := List.length_pos_iff.2 hA0; omega⟩
          rw [hG] at hlast
          simp only [Nat.add_sub_cancel] at hlast
          obtain ⟨b1, o1, rfl, hb1, hat1⟩ := Ha.out.2.2.2 (by omega)
          have HC1 := Lib.hid (fun (W : World) (h : Below q4.heap.size q4 W) => SK.cells (hat1.below h hb1) hlast)
          have hwG : IntKind.i64.wrap ((A.length : Int) - 1) = (G : Int) := by rw [IntKind.wrap_i64]; omega
          have hgl : (G : Int) < (A.length : Int) := by omega
          have hg0 : (0 : Int) ≤ (G : Int) := by omega
          have hp1 : decide ((0 : Int) < (A.length : Int)) = true := decide_eq_true (by omega)
          have hp2 : 0 < A.length := by omega
          have hp3 : (0 : Int) < (A.length : Int) := by omega
          have hE := eql_ad ya ya
          rw [show decide (ya = ya) = true by simp] at hE
          have hgd := guard_ad
          clear hat1 hlast hG hA0 HW1 HW2
          refine ByOps.region_by_sk (by kernel_rfl) (ByOps.facts [.val (.int .i64 (B.length : Int)), .val (.slice a2 B.length c2), .val (.int .i64 (B.length : Int)), .val (.bool true), .val (.bool true), .val (.bool true), .val (.slice (some ⟨b1, o1, none⟩) A.length c1), .val (.int .i64 (A.length : Int)), .val (.bool true), .val (.bool true), .val (.bool true), .val (.bool true), .val (.bool true), .val (.bool false), .val (.bool false), .val (.slice (some ⟨b1, o1, none⟩) A.length c1), .val (.slice (some ⟨b1, o1, none⟩) A.length c1), .val (.int .i64 (A.length : Int)), .val (.int .i64 (G : Int)), .val (.pointer (some ⟨b1, o1 + G * 11, none⟩)), .val (.pointer (some ⟨b1, o1 + G * 11, none⟩)), .val (.agg #[.int .i8 ya.f, .int .u16 ya.g0, .int .u16 ya.g1, .int .u16 ya.g2, .int .u16 ya.g3, .int .u16 ya.g4, .int .u16 ya.g5, .int .u16 ya.g6, .int .u16 ya.g7, .int .i64 ya.p]), .val (.agg #[.int .i8 ya.f, .int .u16 ya.g0, .int .u16 ya.g1, .int .u16 ya.g2, .int .u16 ya.g3, .int .u16 ya.g4, .int .u16 ya.g5, .int .u16 ya.g6, .int .u16 ya.g7, .int .i64 ya.p]), .val (.bool true), .val (.bool true), .val (.bool true), .val (.bool true), .val (.slice (some ⟨b1, o1, none⟩) A.length c1), .val (.int .i64 (A.length : Int)), .val (.slice s l.length c), .val (.int .i64 (l.length : Int)), .val (.bool true), .val (.bool true), .val (.bool true), .val (.bool true), .val (.bool true), .val (.bool true)]) (ByOps.facts_up _) (by kernel_rfl) (fun _ => false) (ByOps.all_ops ?_) (ByOps.all_ops ?_) (ByOps.all_ops ?_) ?_
          · refine ⟨?_, ?_, ?_, ?_, ?_, ?_, ?_, ?_, ?_, ?_, ?_, ?_, ?_, ?_, ?_, ?_, ?_, ?_, ?_, ?_, ?_, ?_, ?_, ?_, ?_, ?_, ?_, ?_, ?_, ?_, ?_, ?_, ?_, ?_, ?_, ?_, ?_, trivial⟩
            · intro _ ρ w9 hB hs
              have hBB : Below q4.heap.size q4 w9 := ⟨hB.os, hB.tape, hB.output, hB.size, hB.block⟩
              have h11 : ρ (.tmp 11) = .int .i64 (B.length : Int) := (hs _ (by simp [Op.operands, Call.operands])).2 (fun t ht => by cases ht; kernel_rfl)
              exact ByOps.runs_value (by first | rfl | go_simp) (Below.refl _ _) h11
            · intro _ ρ w9 hB hs
              have hBB : Below q4.heap.size q4 w9 := ⟨hB.os, hB.tape, hB.output, hB.size, hB.block⟩
              have h10 : ρ (.tmp 10) = .slice a2 B.length c2 := (hs _ (by simp [Op.operands, Call.operands])).2 (fun t ht => by cases ht; kernel_rfl)
              exact ByOps.runs_value (by first | rfl | go_simp) (Below.refl _ _) h10
            · intro _ ρ w9 hB hs
              have hBB : Below q4.heap.size q4 w9 := ⟨hB.os, hB.tape, hB.output, hB.size, hB.block⟩
              have h62 : ρ (.tmp 62) = .slice a2 B.length c2 := (hs (.tmp 62) (by simp [Op.operands, Call.operands])).1 62 rfl 1 _ rfl rfl
              exact ByOps.runs_value (v := .int .i64 (B.length : Int)) (by first | rfl | go_simp) (Below.refl _ _) rfl
            · intro _ ρ w9 hB hs
              have hBB : Below q4.heap.size q4 w9 := ⟨hB.os, hB.tape, hB.output, hB.size, hB.block⟩
              have h61 : ρ (.tmp 61) = .int .i64 (B.length : Int) := (hs (.tmp 61) (by simp [Op.operands, Call.operands])).1 61 rfl 0 _ rfl rfl
              have h63 : ρ (.tmp 63) = .int .i64 (B.length : Int) := (hs (.tmp 63) (by simp [Op.operands, Call.operands])).1 63 rfl 2 _ rfl rfl
              exact ByOps.runs_value (v := .bool true) (by first | rfl | go_simp) (Below.refl _ _) rfl
            · intro _ ρ w9 hB hs
              have hBB : Below q4.heap.size q4 w9 := ⟨hB.os, hB.tape, hB.output, hB.size, hB.block⟩
              have h64 : ρ (.tmp 64) = .bool true := (hs (.tmp 64) (by simp [Op.operands, Call.operands])).1 64 rfl 3 _ rfl rfl
              exact ByOps.runs_value (by first | rfl | go_simp) (Below.refl _ _) h64
            · intro _ ρ w9 hB hs
              have hBB : Below q4.heap.size q4 w9 := ⟨hB.os, hB.tape, hB.output, hB.size, hB.block⟩
              have h14 : ρ (.tmp 14) = .bool true := (hs _ (by simp [Op.operands, Call.operands])).2 (fun t ht => by cases ht; kernel_rfl)
              exact ByOps.runs_value (by first | rfl | go_simp) (Below.refl _ _) h14
            · intro _ ρ w9 hB hs
              have hBB : Below q4.heap.size q4 w9 := ⟨hB.os, hB.tape, hB.output, hB.size, hB.block⟩
              have h9 : ρ (.tmp 9) = .slice (some ⟨b1, o1, none⟩) A.length c1 := (hs _ (by simp [Op.operands, Call.operands])).2 (fun t ht => by cases ht; kernel_rfl)
              exact ByOps.runs_value (by first | rfl | go_simp) (Below.refl _ _) h9
            · intro _ ρ w9 hB hs
              have hBB : Below q4.heap.size q4 w9 := ⟨hB.os, hB.tape, hB.output, hB.size, hB.block⟩
              have h67 : ρ (.tmp 67) = .slice (some ⟨b1, o1, none⟩) A.length c1 := (hs (.tmp 67) (by simp [Op.operands, Call.operands])).1 67 rfl 6 _ rfl rfl
              exact ByOps.runs_value (v := .int .i64 (A.length : Int)) (by first | rfl | go_simp) (Below.refl _ _) rfl
            · intro _ ρ w9 hB hs
              have hBB : Below q4.heap.size q4 w9 := ⟨hB.os, hB.tape, hB.output, hB.size, hB.block⟩
              have h68 : ρ (.tmp 68) = .int .i64 (A.length : Int) := (hs (.tmp 68) (by simp [Op.operands, Call.operands])).1 68 rfl 7 _ rfl rfl
              have hk : ρ (.const (.int .i64 0)) = .int .i64 0 := (hs _ (by simp [Op.operands, Call.operands])).2 (fun t ht => by cases ht)
              exact ByOps.runs_value (v := .bool true) (by first | rfl | go_simp) (Below.refl _ _) rfl
            · intro _ ρ w9 hB hs
              have hBB : Below q4.heap.size q4 w9 := ⟨hB.os, hB.tape, hB.output, hB.size, hB.block⟩
              have h66 : ρ (.tmp 66) = .bool true := (hs (.tmp 66) (by simp [Op.operands, Call.operands])).1 66 rfl 5 _ rfl rfl
              have h69 : ρ (.tmp 69) = .bool true := (hs (.tmp 69) (by simp [Op.operands, Call.operands])).1 69 rfl 8 _ rfl rfl
              exact ByOps.runs_value (v := .bool true) (by first | rfl | go_simp) (Below.refl _ _) rfl
            · intro _ ρ w9 hB hs
              have hBB : Below q4.heap.size q4 w9 := ⟨hB.os, hB.tape, hB.output, hB.size, hB.block⟩
              have h65 : ρ (.tmp 65) = .bool true := (hs (.tmp 65) (by simp [Op.operands, Call.operands])).1 65 rfl 4 _ rfl rfl
              have h70 : ρ (.tmp 70) = .bool true := (hs (.tmp 70) (by simp [Op.operands, Call.operands])).1 70 rfl 9 _ rfl rfl
              exact ByOps.runs_value (v := .bool true) (by first | rfl | go_simp) (Below.refl _ _) rfl
            · intro _ ρ w9 hB hs
              have hBB : Below q4.heap.size q4 w9 := ⟨hB.os, hB.tape, hB.output, hB.size, hB.block⟩
              have h71 : ρ (.tmp 71) = .bool true := (hs (.tmp 71) (by simp [Op.operands, Call.operands])).1 71 rfl 10 _ rfl rfl
              exact ByOps.runs_value (by first | rfl | go_simp) (Below.refl _ _) h71
            · intro _ ρ w9 hB hs
              have hBB : Below q4.heap.size q4 w9 := ⟨hB.os, hB.tape, hB.output, hB.size, hB.block⟩
              have h14 : ρ (.tmp 14) = .bool true := (hs _ (by simp [Op.operands, Call.operands])).2 (fun t ht => by cases ht; kernel_rfl)
              exact ByOps.runs_value (by first | rfl | go_simp) (Below.refl _ _) h14
            · intro _ ρ w9 hB hs
              have hBB : Below q4.heap.size q4 w9 := ⟨hB.os, hB.tape, hB.output, hB.size, hB.block⟩
              have h73 : ρ (.tmp 73) = .bool true := (hs (.tmp 73) (by simp [Op.operands, Call.operands])).1 73 rfl 12 _ rfl rfl
              exact ByOps.runs_value (v := .bool false) (by first | rfl | go_simp) (Below.refl _ _) rfl
            · intro _ ρ w9 hB hs
              have hBB : Below q4.heap.size q4 w9 := ⟨hB.os, hB.tape, hB.output, hB.size, hB.block⟩
              have h74 : ρ (.tmp 74) = .bool false := (hs (.tmp 74) (by simp [Op.operands, Call.operands])).1 74 rfl 13 _ rfl rfl
              exact ByOps.runs_value (by first | rfl | go_simp) (Below.refl _ _) h74
            · intro _ ρ w9 hB hs
              have hBB : Below q4.heap.size q4 w9 := ⟨hB.os, hB.tape, hB.output, hB.size, hB.block⟩
              have h9 : ρ (.tmp 9) = .slice (some ⟨b1, o1, none⟩) A.length c1 := (hs _ (by simp [Op.operands, Call.operands])).2 (fun t ht => by cases ht; kernel_rfl)
              exact ByOps.runs_value (by first | rfl | go_simp) (Below.refl _ _) h9
            · intro _ ρ w9 hB hs
              have hBB : Below q4.heap.size q4 w9 := ⟨hB.os, hB.tape, hB.output, hB.size, hB.block⟩
              have h9 : ρ (.tmp 9) = .slice (some ⟨b1, o1, none⟩) A.length c1 := (hs _ (by simp [Op.operands, Call.operands])).2 (fun t ht => by cases ht; kernel_rfl)
              exact ByOps.runs_value (by first | rfl | go_simp) (Below.refl _ _) h9
            · intro _ ρ w9 hB hs
              have hBB : Below q4.heap.size q4 w9 := ⟨hB.os, hB.tape, hB.output, hB.size, hB.block⟩
              have h77 : ρ (.tmp 77) = .slice (some ⟨b1, o1, none⟩) A.length c1 := (hs (.tmp 77) (by simp [Op.operands, Call.operands])).1 77 rfl 16 _ rfl rfl
              exact ByOps.runs_value (v := .int .i64 (A.length : Int)) (by first | rfl | go_simp) (Below.refl _ _) rfl
            · intro _ ρ w9 hB hs
              have hBB : Below q4.heap.size q4 w9 := ⟨hB.os, hB.tape, hB.output, hB.size, hB.block⟩
              have h78 : ρ (.tmp 78) = .int .i64 (A.length : Int) := (hs (.tmp 78) (by simp [Op.operands, Call.operands])).1 78 rfl 17 _ rfl rfl
              have hk : ρ (.const (.int .i64 1)) = .int .i64 1 := (hs _ (by simp [Op.operands, Call.operands])).2 (fun t ht => by cases ht)
              exact ByOps.runs_value (v := .int .i64 (G : Int)) (by first | rfl | go_simp) (Below.refl _ _) rfl
            · intro _ ρ w9 hB hs
              have hBB : Below q4.heap.size q4 w9 := ⟨hB.os, hB.tape, hB.output, hB.size, hB.block⟩
              have h76 : ρ (.tmp 76) = .slice (some ⟨b1, o1, none⟩) A.length c1 := (hs (.tmp 76) (by simp [Op.operands, Call.operands])).1 76 rfl 15 _ rfl rfl
              have h79 : ρ (.tmp 79) = .int .i64 (G : Int) := (hs (.tmp 79) (by simp [Op.operands, Call.operands])).1 79 rfl 18 _ rfl rfl
              exact ByOps.runs_value (v := .pointer (some ⟨b1, o1 + G * 11, none⟩)) (by first | rfl | go_simp) (Below.refl _ _) rfl
            · intro _ ρ w9 hB hs
              have hBB : Below q4.heap.size q4 w9 := ⟨hB.os, hB.tape, hB.output, hB.size, hB.block⟩
              have h80 : ρ (.tmp 80) = .pointer (some ⟨b1, o1 + G * 11, none⟩) := (hs (.tmp 80) (by simp [Op.operands, Call.operands])).1 80 rfl 19 _ rfl rfl
              exact ByOps.runs_value (v := .pointer (some ⟨b1, o1 + G * 11, none⟩)) (by first | rfl | go_simp) (Below.refl _ _) rfl
            · intro _ ρ w9 hB hs
              have hBB : Below q4.heap.size q4 w9 := ⟨hB.os, hB.tape, hB.output, hB.size, hB.block⟩
              have h81 : ρ (.tmp 81) = .pointer (some ⟨b1, o1 + G * 11, none⟩) := (hs (.tmp 81) (by simp [Op.operands, Call.operands])).1 81 rfl 20 _ rfl rfl
              obtain ⟨d0, d1, d2, d3, d4, d5, d6, d7, d8, d9, d10⟩ := HC1.out w9 hBB
              dsimp only at d0 d1 d2 d3 d4 d5 d6 d7 d8 d9 d10
              exact ByOps.runs_value (v := .agg #[.int .i8 ya.f, .int .u16 ya.g0, .int .u16 ya.g1, .int .u16 ya.g2, .int .u16 ya.g3, .int .u16 ya.g4, .int .u16 ya.g5, .int .u16 ya.g6, .int .u16 ya.g7, .int .i64 ya.p]) (by first | rfl | go_simp) (Below.refl _ _) rfl
            · intro _ ρ w9 hB hs
              have hBB : Below q4.heap.size q4 w9 := ⟨hB.os, hB.tape, hB.output, hB.size, hB.block⟩
              have h13 : ρ (.tmp 13) = .pointer (some ⟨bwy, 0, none⟩) := (hs _ (by simp [Op.operands, Call.operands])).2 (fun t ht => by cases ht; kernel_rfl)
              obtain ⟨⟨e0, e1, e2, e3, e4, e5, e6, e7, e8, e9⟩, _⟩ := box_10 ((hBB.block _ (lt_of_block Hwy.out)).trans Hwy.out)
              exact ByOps.runs_value (v := .agg #[.int .i8 ya.f, .int .u16 ya.g0, .int .u16 ya.g1, .int .u16 ya.g2, .int .u16 ya.g3, .int .u16 ya.g4, .int .u16 ya.g5, .int .u16 ya.g6, .int .u16 ya.g7, .int .i64 ya.p]) (by first | rfl | go_simp) (Below.refl _ _) rfl
            · intro _ ρ w9 hB hs
              have hBB : Below q4.heap.size q4 w9 := ⟨hB.os, hB.tape, hB.output, hB.size, hB.block⟩
              have h82 : ρ (.tmp 82) = .agg #[.int .i8 ya.f, .int .u16 ya.g0, .int .u16 ya.g1, .int .u16 ya.g2, .int .u16 ya.g3, .int .u16 ya.g4, .int .u16 ya.g5, .int .u16 ya.g6, .int .u16 ya.g7, .int .i64 ya.p] := (hs (.tmp 82) (by simp [Op.operands, Call.operands])).1 82 rfl 21 _ rfl rfl
              have h83 : ρ (.tmp 83) = .agg #[.int .i8 ya.f, .int .u16 ya.g0, .int .u16 ya.g1, .int .u16 ya.g2, .int .u16 ya.g3, .int .u16 ya.g4, .int .u16 ya.g5, .int .u16 ya.g6, .int .u16 ya.g7, .int .i64 ya.p] := (hs (.tmp 83) (by simp [Op.operands, Call.operands])).1 83 rfl 22 _ rfl rfl
              exact ByOps.runs_value (v := .bool true) (by first | rfl | go_simp) (Below.refl _ _) rfl
            · intro _ ρ w9 hB hs
              have hBB : Below q4.heap.size q4 w9 := ⟨hB.os, hB.tape, hB.output, hB.size, hB.block⟩
              have h75 : ρ (.tmp 75) = .bool false := (hs (.tmp 75) (by simp [Op.operands, Call.operands])).1 75 rfl 14 _ rfl rfl
              have h84 : ρ (.tmp 84) = .bool true := (hs (.tmp 84) (by simp [Op.operands, Call.operands])).1 84 rfl 23 _ rfl rfl
              exact ByOps.runs_value (v := .bool true) (by first | rfl | go_simp) (Below.refl _ _) rfl
            · intro _ ρ w9 hB hs
              have hBB : Below q4.heap.size q4 w9 := ⟨hB.os, hB.tape, hB.output, hB.size, hB.block⟩
              have h72 : ρ (.tmp 72) = .bool true := (hs (.tmp 72) (by simp [Op.operands, Call.operands])).1 72 rfl 11 _ rfl rfl
              have h85 : ρ (.tmp 85) = .bool true := (hs (.tmp 85) (by simp [Op.operands, Call.operands])).1 85 rfl 24 _ rfl rfl
              exact ByOps.runs_value (v := .bool true) (by first | rfl | go_simp) (Below.refl _ _) rfl
            · intro _ ρ w9 hB hs
              have hBB : Below q4.heap.size q4 w9 := ⟨hB.os, hB.tape, hB.output, hB.size, hB.block⟩
              have h86 : ρ (.tmp 86) = .bool true := (hs (.tmp 86) (by simp [Op.operands, Call.operands])).1 86 rfl 25 _ rfl rfl
              exact ByOps.runs_value (by first | rfl | go_simp) (Below.refl _ _) h86
            · intro _ ρ w9 hB hs
              have hBB : Below q4.heap.size q4 w9 := ⟨hB.os, hB.tape, hB.output, hB.size, hB.block⟩
              have h9 : ρ (.tmp 9) = .slice (some ⟨b1, o1, none⟩) A.length c1 := (hs _ (by simp [Op.operands, Call.operands])).2 (fun t ht => by cases ht; kernel_rfl)
              exact ByOps.runs_value (by first | rfl | go_simp) (Below.refl _ _) h9
            · intro _ ρ w9 hB hs
              have hBB : Below q4.heap.size q4 w9 := ⟨hB.os, hB.tape, hB.output, hB.size, hB.block⟩
              have h88 : ρ (.tmp 88) = .slice (some ⟨b1, o1, none⟩) A.length c1 := (hs (.tmp 88) (by simp [Op.operands, Call.operands])).1 88 rfl 27 _ rfl rfl
              exact ByOps.runs_value (v := .int .i64 (A.length : Int)) (by first | rfl | go_simp) (Below.refl _ _) rfl
            · intro _ ρ w9 hB hs
              have hBB : Below q4.heap.size q4 w9 := ⟨hB.os, hB.tape, hB.output, hB.size, hB.block⟩
              have h0 : ρ (.tmp 0) = .slice s l.length c := (hs _ (by simp [Op.operands, Call.operands])).2 (fun t ht => by cases ht; kernel_rfl)
              exact ByOps.runs_value (by first | rfl | go_simp) (Below.refl _ _) h0
            · intro _ ρ w9 hB hs
              have hBB : Below q4.heap.size q4 w9 := ⟨hB.os, hB.tape, hB.output, hB.size, hB.block⟩
              have h90 : ρ (.tmp 90) = .slice s l.length c := (hs (.tmp 90) (by simp [Op.operands, Call.operands])).1 90 rfl 29 _ rfl rfl
              exact ByOps.runs_value (v := .int .i64 (l.length : Int)) (by first | rfl | go_simp) (Below.refl _ _) rfl
            · intro _ ρ w9 hB hs
              have hBB : Below q4.heap.size q4 w9 := ⟨hB.os, hB.tape, hB.output, hB.size, hB.block⟩
              have h89 : ρ (.tmp 89) = .int .i64 (A.length : Int) := (hs (.tmp 89) (by simp [Op.operands, Call.operands])).1 89 rfl 28 _ rfl rfl
              have h91 : ρ (.tmp 91) = .int .i64 (l.length : Int) := (hs (.tmp 91) (by simp [Op.operands, Call.operands])).1 91 rfl 30 _ rfl rfl
              exact ByOps.runs_value (v := .bool true) (by first | rfl | go_simp) (Below.refl _ _) rfl
            · intro _ ρ w9 hB hs
              have hBB : Below q4.heap.size q4 w9 := ⟨hB.os, hB.tape, hB.output, hB.size, hB.block⟩
              have h87 : ρ (.tmp 87) = .bool true := (hs (.tmp 87) (by simp [Op.operands, Call.operands])).1 87 rfl 26 _ rfl rfl
              have h92 : ρ (.tmp 92) = .bool true := (hs (.tmp 92) (by simp [Op.operands, Call.operands])).1 92 rfl 31 _ rfl rfl
              exact ByOps.runs_value (v := .bool true) (by first | rfl | go_simp) (Below.refl _ _) rfl
            · intro _ ρ w9 hB hs
              have hBB : Below q4.heap.size q4 w9 := ⟨hB.os, hB.tape, hB.output, hB.size, hB.block⟩
              have h93 : ρ (.tmp 93) = .bool true := (hs (.tmp 93) (by simp [Op.operands, Call.operands])).1 93 rfl 32 _ rfl rfl
              exact ByOps.runs_value (by first | rfl | go_simp) (Below.refl _ _) h93
            · intro _ ρ w9 hB hs
              have hBB : Below q4.heap.size q4 w9 := ⟨hB.os, hB.tape, hB.output, hB.size, hB.block⟩
              have hfn : ρ (.func 8) = .func (.func 8) #[] #[] := (hs _ (by simp [Op.operands, Call.operands])).2 (fun t ht => by cases ht)
              refine ByOps.runs_enter (f := 8) (args := #[]) (by go_simp) ?_
              exact (HWk.out w9).mono fun e w2 ⟨he, hb⟩ => ⟨_, he, hb, rfl⟩
            · intro _ ρ w9 hB hs
              have hBB : Below q4.heap.size q4 w9 := ⟨hB.os, hB.tape, hB.output, hB.size, hB.block⟩
              have h94 : ρ (.tmp 94) = .bool true := (hs (.tmp 94) (by simp [Op.operands, Call.operands])).1 94 rfl 33 _ rfl rfl
              have h95 : ρ (.tmp 95) = .bool true := (hs (.tmp 95) (by simp [Op.operands, Call.operands])).1 95 rfl 34 _ rfl rfl
              exact ByOps.runs_value (v := .bool true) (by first | rfl | go_simp) (Below.refl _ _) rfl
            · intro _ ρ w9 hB hs
              have hBB : Below q4.heap.size q4 w9 := ⟨hB.os, hB.tape, hB.output, hB.size, hB.block⟩
              have h96 : ρ (.tmp 96) = .bool true := (hs (.tmp 96) (by simp [Op.operands, Call.operands])).1 96 rfl 35 _ rfl rfl
              exact ByOps.runs_value (by first | rfl | go_simp) (Below.refl _ _) h96
          · refine ⟨?_, ?_, ?_, ?_, ?_, ?_, ?_, ?_, ?_, ?_, ?_, ?_, ?_, ?_, ?_, ?_, ?_, ?_, ?_, ?_, ?_, ?_, ?_, ?_, ?_, ?_, ?_, ?_, ?_, ?_, ?_, ?_, ?_, ?_, ?_, ?_, ?_, trivial⟩
            all_goals first | (intro hs0; cases hs0; done) | (intro _; exact ⟨by simp, fun _ => rfl⟩)
          · refine ⟨?_, ?_, ?_, ?_, ?_, ?_, ?_, ?_, ?_, ?_, ?_, ?_, ?_, ?_, ?_, ?_, ?_, ?_, ?_, ?_, ?_, ?_, ?_, ?_, ?_, ?_, ?_, ?_, ?_, ?_, ?_, ?_, ?_, ?_, ?_, ?_, ?_, trivial⟩
            all_goals first | (intro g b h; cases h; done) | (intro g b h; cases h; intro v w h; exact ⟨fun h0 => (by first | exact h | cases h0), fun h0 => (by first | cases h0; done | exact .inl h | exact .inr h)⟩)
          · intro a9 w9 hd9 hs9 ho9 hn9 hB9
            obtain ⟨v0, e0, p0⟩ := hn9 0 _ 61 rfl rfl
            obtain ⟨v1, e1, p1⟩ := hn9 1 _ 62 rfl rfl
            obtain ⟨v2, e2, p2⟩ := hn9 2 _ 63 rfl rfl
            obtain ⟨v3, e3, p3⟩ := hn9 3 _ 64 rfl rfl
            obtain ⟨v4, e4, p4⟩ := hn9 4 _ 65 rfl rfl
            obtain ⟨v5, e5, p5⟩ := hn9 5 _ 66 rfl rfl
            obtain ⟨v6, e6, p6⟩ := hn9 6 _ 67 rfl rfl
            obtain ⟨v7, e7, p7⟩ := hn9 7 _ 68 rfl rfl
            obtain ⟨v8, e8, p8⟩ := hn9 8 _ 69 rfl rfl
            obtain ⟨v9, e9, p9⟩ := hn9 9 _ 70 rfl rfl
            obtain ⟨v10, e10, p10⟩ := hn9 10 _ 71 rfl rfl
            obtain ⟨v11, e11, p11⟩ := hn9 11 _ 72 rfl rfl
            obtain ⟨v12, e12, p12⟩ := hn9 12 _ 73 rfl rfl
            obtain ⟨v13, e13, p13⟩ := hn9 13 _ 74 rfl rfl
            obtain ⟨v14, e14, p14⟩ := hn9 14 _ 75 rfl rfl
            obtain ⟨v15, e15, p15⟩ := hn9 15 _ 76 rfl rfl
            obtain ⟨v16, e16, p16⟩ := hn9 16 _ 77 rfl rfl
            obtain ⟨v17, e17, p17⟩ := hn9 17 _ 78 rfl rfl
            obtain ⟨v18, e18, p18⟩ := hn9 18 _ 79 rfl rfl
            obtain ⟨v19, e19, p19⟩ := hn9 19 _ 80 rfl rfl
            obtain ⟨v20, e20, p20⟩ := hn9 20 _ 81 rfl rfl
            obtain ⟨v21, e21, p21⟩ := hn9 21 _ 82 rfl rfl
            obtain ⟨v22, e22, p22⟩ := hn9 22 _ 83 rfl rfl
            obtain ⟨v23, e23, p23⟩ := hn9 23 _ 84 rfl rfl
            obtain ⟨v24, e24, p24⟩ := hn9 24 _ 85 rfl rfl
            obtain ⟨v25, e25, p25⟩ := hn9 25 _ 86 rfl rfl
            obtain ⟨v26, e26, p26⟩ := hn9 26 _ 87 rfl rfl
            obtain ⟨v27, e27, p27⟩ := hn9 27 _ 88 rfl rfl
            obtain ⟨v28, e28, p28⟩ := hn9 28 _ 89 rfl rfl
            obtain ⟨v29, e29, p29⟩ := hn9 29 _ 90 rfl rfl
            obtain ⟨v30, e30, p30⟩ := hn9 30 _ 91 rfl rfl
            obtain ⟨v31, e31, p31⟩ := hn9 31 _ 92 rfl rfl
            obtain ⟨v32, e32, p32⟩ := hn9 32 _ 93 rfl rfl
            obtain ⟨v33, e33, p33⟩ := hn9 33 _ 94 rfl rfl
            obtain ⟨v34, e34, p34⟩ := hn9 34 _ 95 rfl rfl
            obtain ⟨v35, e35, p35⟩ := hn9 35 _ 96 rfl rfl
            obtain ⟨v36, e36, p36⟩ := hn9 36 _ 8 rfl rfl
            obtain rfl : v0 = .int .i64 (B.length : Int) := p0
            obtain rfl : v1 = .slice a2 B.length c2 := p1
            obtain rfl : v2 = .int .i64 (B.length : Int) := p2
            obtain rfl : v3 = .bool true := p3
            obtain rfl : v4 = .bool true := p4
            obtain rfl : v5 = .bool true := p5
            obtain rfl : v6 = .slice (some ⟨b1, o1, none⟩) A.length c1 := p6
            obtain rfl : v7 = .int .i64 (A.length : Int) := p7
            obtain rfl : v8 = .bool true := p8
            obtain rfl : v9 = .bool true := p9
            obtain rfl : v10 = .bool true := p10
            obtain rfl : v11 = .bool true := p11
            obtain rfl : v12 = .bool true := p12
            obtain rfl : v13 = .bool false := p13
            obtain rfl : v14 = .bool false := p14
            obtain rfl : v15 = .slice (some ⟨b1, o1, none⟩) A.length c1 := p15
            obtain rfl : v16 = .slice (some ⟨b1, o1, none⟩) A.length c1 := p16
            obtain rfl : v17 = .int .i64 (A.length : Int) := p17
            obtain rfl : v18 = .int .i64 (G : Int) := p18
            obtain rfl : v19 = .pointer (some ⟨b1, o1 + G * 11, none⟩) := p19
            obtain rfl : v20 = .pointer (some ⟨b1, o1 + G * 11, none⟩) := p20
            obtain rfl : v21 = .agg #[.int .i8 ya.f, .int .u16 ya.g0, .int .u16 ya.g1, .int .u16 ya.g2, .int .u16 ya.g3, .int .u16 ya.g4, .int .u16 ya.g5, .int .u16 ya.g6, .int .u16 ya.g7, .int .i64 ya.p] := p21
            obtain rfl : v22 = .agg #[.int .i8 ya.f, .int .u16 ya.g0, .int .u16 ya.g1, .int .u16 ya.g2, .int .u16 ya.g3, .int .u16 ya.g4, .int .u16 ya.g5, .int .u16 ya.g6, .int .u16 ya.g7, .int .i64 ya.p] := p22
            obtain rfl : v23 = .bool true := p23
            obtain rfl : v24 = .bool true := p24
            obtain rfl : v25 = .bool true := p25
            obtain rfl : v26 = .bool true := p26
            obtain rfl : v27 = .slice (some ⟨b1, o1, none⟩) A.length c1 := p27
            obtain rfl : v28 = .int .i64 (A.length : Int) := p28
            obtain rfl : v29 = .slice s l.length c := p29
            obtain rfl : v30 = .int .i64 (l.length : Int) := p30
            obtain rfl : v31 = .bool true := p31
            obtain rfl : v32 = .bool true := p32
            obtain rfl : v33 = .bool true := p33
            obtain rfl : v34 = .bool true := p34
            obtain rfl : v35 = .bool true := p35
            obtain rfl : v36 = .bool true := p36
            have ha := ByOps.act_eq [(61, .int .i64 (B.length : Int)), (62, .slice a2 B.length c2), (63, .int .i64 (B.length : Int)), (64, .bool true), (65, .bool true), (66, .bool true), (67, .slice (some ⟨b1, o1, none⟩) A.length c1), (68, .int .i64 (A.length : Int)), (69, .bool true), (70, .bool true), (71, .bool true), (72, .bool true), (73, .bool true), (74, .bool false), (75, .bool false), (76, .slice (some ⟨b1, o1, none⟩) A.length c1), (77, .slice (some ⟨b1, o1, none⟩) A.length c1), (78, .int .i64 (A.length : Int)), (79, .int .i64 (G : Int)), (80, .pointer (some ⟨b1, o1 + G * 11, none⟩)), (81, .pointer (some ⟨b1, o1 + G * 11, none⟩)), (82, .agg #[.int .i8 ya.f, .int .u16 ya.g0, .int .u16 ya.g1, .int .u16 ya.g2, .int .u16 ya.g3, .int .u16 ya.g4, .int .u16 ya.g5, .int .u16 ya.g6, .int .u16 ya.g7, .int .i64 ya.p]), (83, .agg #[.int .i8 ya.f, .int .u16 ya.g0, .int .u16 ya.g1, .int .u16 ya.g2, .int .u16 ya.g3, .int .u16 ya.g4, .int .u16 ya.g5, .int .u16 ya.g6, .int .u16 ya.g7, .int .i64 ya.p]), (84, .bool true), (85, .bool true), (86, .bool true), (87, .bool true), (88, .slice (some ⟨b1, o1, none⟩) A.length c1), (89, .int .i64 (A.length : Int)), (90, .slice s l.length c), (91, .int .i64 (l.length : Int)), (92, .bool true), (93, .bool true), (94, .bool true), (95, .bool true), (96, .bool true), (8, .bool true)] a9 _ hd9 hs9 (fun t ht => ho9 t (ByOps.outer_of (ts := [61, 62, 63, 64, 65, 66, 67, 68, 69, 70, 71, 72, 73, 74, 75, 76, 77, 78, 79, 80, 81, 82, 83, 84, 85, 86, 87, 88, 89, 90, 91, 92, 93, 94, 95, 96, 8]) rfl ht)) (by intro p hp; simp only [List.mem_cons, List.not_mem_nil, or_false] at hp; rcases hp with rfl | rfl | rfl | rfl | rfl | rfl | rfl | rfl | rfl | rfl | rfl | rfl | rfl | rfl | rfl | rfl | rfl | rfl | rfl | rfl | rfl | rfl | rfl | rfl | rfl | rfl | rfl | rfl | rfl | rfl | rfl | rfl | rfl | rfl | rfl | rfl | rfl <;> assumption)
            rw [ha]
            clear ha hn9 ho9 hs9 hd9 e0 e1 e2 e3 e4 e5 e6 e7 e8 e9 e10 e11 e12 e13 e14 e15 e16 e17 e18 e19 e20 e21 e22 e23 e24 e25 e26 e27 e28 e29 e30 e31 e32 e33 e34 e35 e36
            simp only [List.foldl, Act.put, List.setIfInBounds_toArray, List.set_cons_zero, List.set_cons_succ]
            have hb9 : Below q4.heap.size q4 w9 := ⟨hB9.os, hB9.tape, hB9.output, hB9.size, hB9.block⟩
            clear hB9
            have hbf := HB.out.trans (hb9.mono HB.out.size)
            go_wp2_with fail
            go_ret
            exact ⟨rfl, hbf⟩
      · clear hend HS
        have HX := Lib.hid (HWo.out l g n s c ya yb wr hya.out hyb.out (by omega) Hl.out)
        simp only [Ad.v] at HX
        go_wp2_with fail
        with_reducible refine HX.out.mono ?_
        rintro e w3 ⟨rfl, hb⟩
        clear HX
        replace Hl := Lib.hid (Hl.out.below hb)
        replace Ha := Lib.hid (Ha.out.below hb)
        replace Hb := Lib.hid (Hb.out.below hb)
        replace HB := Lib.hid (HB.out.trans (hb.mono HB.out.size))
        clear hb
        simp only [Ad.v]
        go_upto_region 11 with fail
        obtain ⟨q4, hq4⟩ : ∃ X, X = w3.alloc (.cells #[.int .i8 ya.f, .int .u16 ya.g0, .int .u16 ya.g1, .int .u16 ya.g2, .int .u16 ya.g3, .int .u16 ya.g4, .int .u16 ya.g5, .int .u16 ya.g6, .int .u16 ya.g7, .int .i64 ya.p] 31) := ⟨_, rfl⟩
        have hb : Below w3.heap.size w3 q4 := by rw [hq4]; exact below1 _ _
        have hL := laid1 w3 (.cells #[.int .i8 ya.f, .int .u16 ya.g0, .int .u16 ya.g1, .int .u16 ya.g2, .int .u16 ya.g3, .int .u16 ya.g4, .int .u16 ya.g5, .int .u16 ya.g6, .int .u16 ya.g7, .int .i64 ya.p] 31)
        rw [← hq4] at hL ⊢
        clear hq4
        obtain ⟨bwy, hbwy⟩ : ∃ n, n = w3.heap.size := ⟨_, rfl⟩
        rw [← hbwy] at hL ⊢
        have hswy : w.heap.size ≤ bwy := by rw [hbwy]; exact HB.out.size
        clear hbwy
        replace Hl := Lib.hid (Hl.out.below hb)
        replace Ha := Lib.hid (Ha.out.below hb)
        replace Hb := Lib.hid (Hb.out.below hb)
        replace HB := Lib.hid (HB.out.trans (hb.mono HB.out.size))
        clear hb
        have Hwy := Lib.hid hL
        clear hL
        clear h3 h4
        have hALd : decide ((A.length : Int) ≤ (l.length : Int)) = true := decide_eq_true (by omega)
        have hALd2 : (A.length : Int) ≤ (l.length : Int) := by omega
        by_cases hA0 : A = []
        · obtain rfl : yb = false := (HW1.out hA0).2
          subst hA0
          clear HW1 HW2
          have hz : decide ((0 : Int) < (([] : List Sc).length : Int)) = false := rfl
          refine ByOps.region_by_sk (by kernel_rfl) (ByOps.facts [.val (.int .i64 (B.length : Int)), .val (.slice a2 B.length c2), .val (.int .i64 (B.length : Int)), .val (.bool true), .val (.bool true), .val (.bool false), .val (.slice a1 ([] : List Sc).length c1), .val (.int .i64 (([] : List Sc).length : Int)), .val (.bool false), .val (.bool true), .val (.bool true), .val (.bool true), .val (.bool false), .val (.bool true), .val (.bool true), .un, .un, .un, .un, .un, .un, .un, .un, .un, .val (.bool true), .val (.bool true), .val (.bool true), .val (.slice a1 ([] : List Sc).length c1), .val (.int .i64 (([] : List Sc).length : Int)), .val (.slice s l.length c), .val (.int .i64 (l.length : Int)), .val (.bool true), .val (.bool true), .val (.bool true), .val (.bool true), .val (.bool true), .val (.bool true)]) (ByOps.facts_up _) (by kernel_rfl) (fun i => i == 15 || i == 16 || i == 17 || i == 18 || i == 19 || i == 20 || i == 21 || i == 22 || i == 23) (ByOps.all_ops ?_) (ByOps.all_ops ?_) (ByOps.all_ops ?_) ?_
          · refine ⟨?_, ?_, ?_, ?_, ?_, ?_, ?_, ?_, ?_, ?_, ?_, ?_, ?_, ?_, ?_, ?_, ?_, ?_, ?_, ?_, ?_, ?_, ?_, ?_, ?_, ?_, ?_, ?_, ?_, ?_, ?_, ?_, ?_, ?_, ?_, ?_, ?_, trivial⟩
            · intro _ ρ w9 hB hs
              have hBB : Below q4.heap.size q4 w9 := ⟨hB.os, hB.tape, hB.output, hB.size, hB.block⟩
              have h11 : ρ (.tmp 11) = .int .i64 (B.length : Int) := (hs _ (by simp [Op.operands, Call.operands])).2 (fun t ht => by cases ht; kernel_rfl)
              exact ByOps.runs_value (by first | rfl | go_simp) (Below.refl _ _) h11
            · intro _ ρ w9 hB hs
              have hBB : Below q4.heap.size q4 w9 := ⟨hB.os, hB.tape, hB.output, hB.size, hB.block⟩
              have h10 : ρ (.tmp 10) = .slice a2 B.length c2 := (hs _ (by simp [Op.operands, Call.operands])).2 (fun t ht => by cases ht; kernel_rfl)
              exact ByOps.runs_value (by first | rfl | go_simp) (Below.refl _ _) h10
            · intro _ ρ w9 hB hs
              have hBB : Below q4.heap.size q4 w9 := ⟨hB.os, hB.tape, hB.output, hB.size, hB.block⟩
              have h62 : ρ (.tmp 62) = .slice a2 B.length c2 := (hs (.tmp 62) (by simp [Op.operands, Call.operands])).1 62 rfl 1 _ rfl rfl
              exact ByOps.runs_value (v := .int .i64 (B.length : Int)) (by first | rfl | go_simp) (Below.refl _ _) rfl
            · intro _ ρ w9 hB hs
              have hBB : Below q4.heap.size q4 w9 := ⟨hB.os, hB.tape, hB.output, hB.size, hB.block⟩
              have h61 : ρ (.tmp 61) = .int .i64 (B.length : Int) := (hs (.tmp 61) (by simp [Op.operands, Call.operands])).1 61 rfl 0 _ rfl rfl
              have h63 : ρ (.tmp 63) = .int .i64 (B.length : Int) := (hs (.tmp 63) (by simp [Op.operands, Call.operands])).1 63 rfl 2 _ rfl rfl
              exact ByOps.runs_value (v := .bool true) (by first | rfl | go_simp) (Below.refl _ _) rfl
            · intro _ ρ w9 hB hs
              have hBB : Below q4.heap.size q4 w9 := ⟨hB.os, hB.tape, hB.output, hB.size, hB.block⟩
              have h64 : ρ (.tmp 64) = .bool true := (hs (.tmp 64) (by simp [Op.operands, Call.operands])).1 64 rfl 3 _ rfl rfl
              exact ByOps.runs_value (by first | rfl | go_simp) (Below.refl _ _) h64
            · intro _ ρ w9 hB hs
              have hBB : Below q4.heap.size q4 w9 := ⟨hB.os, hB.tape, hB.output, hB.size, hB.block⟩
              have h14 : ρ (.tmp 14) = .bool false := (hs _ (by simp [Op.operands, Call.operands])).2 (fun t ht => by cases ht; kernel_rfl)
              exact ByOps.runs_value (by first | rfl | go_simp) (Below.refl _ _) h14
            · intro _ ρ w9 hB hs
              have hBB : Below q4.heap.size q4 w9 := ⟨hB.os, hB.tape, hB.output, hB.size, hB.block⟩
              have h9 : ρ (.tmp 9) = .slice a1 ([] : List Sc).length c1 := (hs _ (by simp [Op.operands, Call.operands])).2 (fun t ht => by cases ht; kernel_rfl)
              exact ByOps.runs_value (by first | rfl | go_simp) (Below.refl _ _) h9
            · intro _ ρ w9 hB hs
              have hBB : Below q4.heap.size q4 w9 := ⟨hB.os, hB.tape, hB.output, hB.size, hB.block⟩
              have h67 : ρ (.tmp 67) = .slice a1 ([] : List Sc).length c1 := (hs (.tmp 67) (by simp [Op.operands, Call.operands])).1 67 rfl 6 _ rfl rfl
              exact ByOps.runs_value (v := .int .i64 (([] : List Sc).length : Int)) (by first | rfl | go_simp) (Below.refl _ _) rfl
            · intro _ ρ w9 hB hs
              have hBB : Below q4.heap.size q4 w9 := ⟨hB.os, hB.tape, hB.output, hB.size, hB.block⟩
              have h68 : ρ (.tmp 68) = .int .i64 (([] : List Sc).length : Int) := (hs (.tmp 68) (by simp [Op.operands, Call.operands])).1 68 rfl 7 _ rfl rfl
              have hk : ρ (.const (.int .i64 0)) = .int .i64 0 := (hs _ (by simp [Op.operands, Call.operands])).2 (fun t ht => by cases ht)
              exact ByOps.runs_value (v := .bool false) (by first | rfl | go_simp) (Below.refl _ _) rfl
            · intro _ ρ w9 hB hs
              have hBB : Below q4.heap.size q4 w9 := ⟨hB.os, hB.tape, hB.output, hB.size, hB.block⟩
              have h66 : ρ (.tmp 66) = .bool false := (hs (.tmp 66) (by simp [Op.operands, Call.operands])).1 66 rfl 5 _ rfl rfl
              have h69 : ρ (.tmp 69) = .bool false := (hs (.tmp 69) (by simp [Op.operands, Call.operands])).1 69 rfl 8 _ rfl rfl
              exact ByOps.runs_value (v := .bool true) (by first | rfl | go_simp) (Below.refl _ _) rfl
            · intro _ ρ w9 hB hs
              have hBB : Below q4.heap.size q4 w9 := ⟨hB.os, hB.tape, hB.output, hB.size, hB.block⟩
              have h65 : ρ (.tmp 65) = .bool true := (hs (.tmp 65) (by simp [Op.operands, Call.operands])).1 65 rfl 4 _ rfl rfl
              have h70 : ρ (.tmp 70) = .bool true := (hs (.tmp 70) (by simp [Op.operands, Call.operands])).1 70 rfl 9 _ rfl rfl
              exact ByOps.runs_value (v := .bool true) (by first | rfl | go_simp) (Below.refl _ _) rfl
            · intro _ ρ w9 hB hs
              have hBB : Below q4.heap.size q4 w9 := ⟨hB.os, hB.tape, hB.output, hB.size, hB.block⟩
              have h71 : ρ (.tmp 71) = .bool true := (hs (.tmp 71) (by simp [Op.operands, Call.operands])).1 71 rfl 10 _ rfl rfl
              exact ByOps.runs_value (by first | rfl | go_simp) (Below.refl _ _) h71
            · intro _ ρ w9 hB hs
              have hBB : Below q4.heap.size q4 w9 := ⟨hB.os, hB.tape, hB.output, hB.size, hB.block⟩
              have h14 : ρ (.tmp 14) = .bool false := (hs _ (by simp [Op.operands, Call.operands])).2 (fun t ht => by cases ht; kernel_rfl)
              exact ByOps.runs_value (by first | rfl | go_simp) (Below.refl _ _) h14
            · intro _ ρ w9 hB hs
              have hBB : Below q4.heap.size q4 w9 := ⟨hB.os, hB.tape, hB.output, hB.size, hB.block⟩
              have h73 : ρ (.tmp 73) = .bool false := (hs (.tmp 73) (by simp [Op.operands, Call.operands])).1 73 rfl 12 _ rfl rfl
              exact ByOps.runs_value (v := .bool true) (by first | rfl | go_simp) (Below.refl _ _) rfl
            · intro _ ρ w9 hB hs
              have hBB : Below q4.heap.size q4 w9 := ⟨hB.os, hB.tape, hB.output, hB.size, hB.block⟩
              have h74 : ρ (.tmp 74) = .bool true := (hs (.tmp 74) (by simp [Op.operands, Call.operands])).1 74 rfl 13 _ rfl rfl
              exact ByOps.runs_value (by first | rfl | go_simp) (Below.refl _ _) h74
            · intro hs0; cases hs0
            · intro hs0; cases hs0
            · intro hs0; cases hs0
            · intro hs0; cases hs0
            · intro hs0; cases hs0
            · intro hs0; cases hs0
            · intro hs0; cases hs0
            · intro hs0; cases hs0
            · intro hs0; cases hs0
            · intro _ ρ w9 hB hs
              have hBB : Below q4.heap.size q4 w9 := ⟨hB.os, hB.tape, hB.output, hB.size, hB.block⟩
              have h75 : ρ (.tmp 75) = .bool true := (hs (.tmp 75) (by simp [Op.operands, Call.operands])).1 75 rfl 14 _ rfl rfl
              have hk : ρ (.const (.bool true)) = .bool true := (hs _ (by simp [Op.operands, Call.operands])).2 (fun t ht => by cases ht)
              exact ByOps.runs_value (v := .bool true) (by first | rfl | go_simp) (Below.refl _ _) rfl
            · intro _ ρ w9 hB hs
              have hBB : Below q4.heap.size q4 w9 := ⟨hB.os, hB.tape, hB.output, hB.size, hB.block⟩
              have h72 : ρ (.tmp 72) = .bool true := (hs (.tmp 72) (by simp [Op.operands, Call.operands])).1 72 rfl 11 _ rfl rfl
              have h85 : ρ (.tmp 85) = .bool true := (hs (.tmp 85) (by simp [Op.operands, Call.operands])).1 85 rfl 24 _ rfl rfl
              exact ByOps.runs_value (v := .bool true) (by first | rfl | go_simp) (Below.refl _ _) rfl
            · intro _ ρ w9 hB hs
              have hBB : Below q4.heap.size q4 w9 := ⟨hB.os, hB.tape, hB.output, hB.size, hB.block⟩
              have h86 : ρ (.tmp 86) = .bool true := (hs (.tmp 86) (by simp [Op.operands, Call.operands])).1 86 rfl 25 _ rfl rfl
              exact ByOps.runs_value (by first | rfl | go_simp) (Below.refl _ _) h86
            · intro _ ρ w9 hB hs
              have hBB : Below q4.heap.size q4 w9 := ⟨hB.os, hB.tape, hB.output, hB.size, hB.block⟩
              have h9 : ρ (.tmp 9) = .slice a1 ([] : List Sc).length c1 := (hs _ (by simp [Op.operands, Call.operands])).2 (fun t ht => by cases ht; kernel_rfl)
              exact ByOps.runs_value (by first | rfl | go_simp) (Below.refl _ _) h9
            · intro _ ρ w9 hB hs
              have hBB : Below q4.heap.size q4 w9 := ⟨hB.os, hB.tape, hB.output, hB.size, hB.block⟩
              have h88 : ρ (.tmp 88) = .slice a1 ([] : List Sc).length c1 := (hs (.tmp 88) (by simp [Op.operands, Call.operands])).1 88 rfl 27 _ rfl rfl
              exact ByOps.runs_value (v := .int .i64 (([] : List Sc).length : Int)) (by first | rfl | go_simp) (Below.refl _ _) rfl
            · intro _ ρ w9 hB hs
              have hBB : Below q4.heap.size q4 w9 := ⟨hB.os, hB.tape, hB.output, hB.size, hB.block⟩
              have h0 : ρ (.tmp 0) = .slice s l.length c := (hs _ (by simp [Op.operands, Call.operands])).2 (fun t ht => by cases ht; kernel_rfl)
              exact ByOps.runs_value (by first | rfl | go_simp) (Below.refl _ _) h0
            · intro _ ρ w9 hB hs
              have hBB : Below q4.heap.size q4 w9 := ⟨hB.os, hB.tape, hB.output, hB.size, hB.block⟩
              have h90 : ρ (.tmp 90) = .slice s l.length c := (hs (.tmp 90) (by simp [Op.operands, Call.operands])).1 90 rfl 29 _ rfl rfl
              exact ByOps.runs_value (v := .int .i64 (l.length : Int)) (by first | rfl | go_simp) (Below.refl _ _) rfl
            · intro _ ρ w9 hB hs
              have hBB : Below q4.heap.size q4 w9 := ⟨hB.os, hB.tape, hB.output, hB.size, hB.block⟩
              have h89 : ρ (.tmp 89) = .int .i64 (([] : List Sc).length : Int) := (hs (.tmp 89) (by simp [Op.operands, Call.operands])).1 89 rfl 28 _ rfl rfl
              have h91 : ρ (.tmp 91) = .int .i64 (l.length : Int) := (hs (.tmp 91) (by simp [Op.operands, Call.operands])).1 91 rfl 30 _ rfl rfl
              exact ByOps.runs_value (v := .bool true) (by first | rfl | go_simp) (Below.refl _ _) rfl
            · intro _ ρ w9 hB hs
              have hBB : Below q4.heap.size q4 w9 := ⟨hB.os, hB.tape, hB.output, hB.size, hB.block⟩
              have h87 : ρ (.tmp 87) = .bool true := (hs (.tmp 87) (by simp [Op.operands, Call.operands])).1 87 rfl 26 _ rfl rfl
              have h92 : ρ (.tmp 92) = .bool true := (hs (.tmp 92) (by simp [Op.operands, Call.operands])).1 92 rfl 31 _ rfl rfl
              exact ByOps.runs_value (v := .bool true) (by first | rfl | go_simp) (Below.refl _ _) rfl
            · intro _ ρ w9 hB hs
              have hBB : Below q4.heap.size q4 w9 := ⟨hB.os, hB.tape, hB.output, hB.size, hB.block⟩
              have h93 : ρ (.tmp 93) = .bool true := (hs (.tmp 93) (by simp [Op.operands, Call.operands])).1 93 rfl 32 _ rfl rfl
              exact ByOps.runs_value (by first | rfl | go_simp) (Below.refl _ _) h93
            · intro _ ρ w9 hB hs
              have hBB : Below q4.heap.size q4 w9 := ⟨hB.os, hB.tape, hB.output, hB.size, hB.block⟩
              have hfn : ρ (.func 8) = .func (.func 8) #[] #[] := (hs _ (by simp [Op.operands, Call.operands])).2 (fun t ht => by cases ht)
              refine ByOps.runs_enter (f := 8) (args := #[]) (by go_simp) ?_
              exact (HWk.out w9).mono fun e w2 ⟨he, hb⟩ => ⟨_, he, hb, rfl⟩
            · intro _ ρ w9 hB hs
              have hBB : Below q4.heap.size q4 w9 := ⟨hB.os, hB.tape, hB.output, hB.size, hB.block⟩
              have h94 : ρ (.tmp 94) = .bool true := (hs (.tmp 94) (by simp [Op.operands, Call.operands])).1 94 rfl 33 _ rfl rfl
              have h95 : ρ (.tmp 95) = .bool true := (hs (.tmp 95) (by simp [Op.operands, Call.operands])).1 95 rfl 34 _ rfl rfl
              exact ByOps.runs_value (v := .bool true) (by first | rfl | go_simp) (Below.refl _ _) rfl
            · intro _ ρ w9 hB hs
              have hBB : Below q4.heap.size q4 w9 := ⟨hB.os, hB.tape, hB.output, hB.size, hB.block⟩
              have h96 : ρ (.tmp 96) = .bool true := (hs (.tmp 96) (by simp [Op.operands, Call.operands])).1 96 rfl 35 _ rfl rfl
              exact ByOps.runs_value (by first | rfl | go_simp) (Below.refl _ _) h96
          · refine ⟨?_, ?_, ?_, ?_, ?_, ?_, ?_, ?_, ?_, ?_, ?_, ?_, ?_, ?_, ?_, ?_, ?_, ?_, ?_, ?_, ?_, ?_, ?_, ?_, ?_, ?_, ?_, ?_, ?_, ?_, ?_, ?_, ?_, ?_, ?_, ?_, ?_, trivial⟩
            all_goals first | (intro hs0; cases hs0; done) | (intro _; exact ⟨by simp, fun _ => rfl⟩)
          · refine ⟨?_, ?_, ?_, ?_, ?_, ?_, ?_, ?_, ?_, ?_, ?_, ?_, ?_, ?_, ?_, ?_, ?_, ?_, ?_, ?_, ?_, ?_, ?_, ?_, ?_, ?_, ?_, ?_, ?_, ?_, ?_, ?_, ?_, ?_, ?_, ?_, ?_, trivial⟩
            all_goals first | (intro g b h; cases h; done) | (intro g b h; cases h; intro v w h; exact ⟨fun h0 => (by first | exact h | cases h0), fun h0 => (by first | cases h0; done | exact .inl h | exact .inr h)⟩)
          · intro a9 w9 hd9 hs9 ho9 hn9 hB9
            obtain ⟨v0, e0, p0⟩ := hn9 0 _ 61 rfl rfl
            obtain ⟨v1, e1, p1⟩ := hn9 1 _ 62 rfl rfl
            obtain ⟨v2, e2, p2⟩ := hn9 2 _ 63 rfl rfl
            obtain ⟨v3, e3, p3⟩ := hn9 3 _ 64 rfl rfl
            obtain ⟨v4, e4, p4⟩ := hn9 4 _ 65 rfl rfl
            obtain ⟨v5, e5, p5⟩ := hn9 5 _ 66 rfl rfl
            obtain ⟨v6, e6, p6⟩ := hn9 6 _ 67 rfl rfl
            obtain ⟨v7, e7, p7⟩ := hn9 7 _ 68 rfl rfl
            obtain ⟨v8, e8, p8⟩ := hn9 8 _ 69 rfl rfl
            obtain ⟨v9, e9, p9⟩ := hn9 9 _ 70 rfl rfl
            obtain ⟨v10, e10, p10⟩ := hn9 10 _ 71 rfl rfl
            obtain ⟨v11, e11, p11⟩ := hn9 11 _ 72 rfl rfl
            obtain ⟨v12, e12, p12⟩ := hn9 12 _ 73 rfl rfl
            obtain ⟨v13, e13, p13⟩ := hn9 13 _ 74 rfl rfl
            obtain ⟨v14, e14, p14⟩ := hn9 14 _ 75 rfl rfl
            obtain ⟨v15, e15, p15⟩ := hn9 15 _ 76 rfl rfl
            obtain ⟨v16, e16, p16⟩ := hn9 16 _ 77 rfl rfl
            obtain ⟨v17, e17, p17⟩ := hn9 17 _ 78 rfl rfl
            obtain ⟨v18, e18, p18⟩ := hn9 18 _ 79 rfl rfl
            obtain ⟨v19, e19, p19⟩ := hn9 19 _ 80 rfl rfl
            obtain ⟨v20, e20, p20⟩ := hn9 20 _ 81 rfl rfl
            obtain ⟨v21, e21, p21⟩ := hn9 21 _ 82 rfl rfl
            obtain ⟨v22, e22, p22⟩ := hn9 22 _ 83 rfl rfl
            obtain ⟨v23, e23, p23⟩ := hn9 23 _ 84 rfl rfl
            obtain ⟨v24, e24, p24⟩ := hn9 24 _ 85 rfl rfl
            obtain ⟨v25, e25, p25⟩ := hn9 25 _ 86 rfl rfl
            obtain ⟨v26, e26, p26⟩ := hn9 26 _ 87 rfl rfl
            obtain ⟨v27, e27, p27⟩ := hn9 27 _ 88 rfl rfl
            obtain ⟨v28, e28, p28⟩ := hn9 28 _ 89 rfl rfl
            obtain ⟨v29, e29, p29⟩ := hn9 29 _ 90 rfl rfl
            obtain ⟨v30, e30, p30⟩ := hn9 30 _ 91 rfl rfl
            obtain ⟨v31, e31, p31⟩ := hn9 31 _ 92 rfl rfl
            obtain ⟨v32, e32, p32⟩ := hn9 32 _ 93 rfl rfl
            obtain ⟨v33, e33, p33⟩ := hn9 33 _ 94 rfl rfl
            obtain ⟨v34, e34, p34⟩ := hn9 34 _ 95 rfl rfl
            obtain ⟨v35, e35, p35⟩ := hn9 35 _ 96 rfl rfl
            obtain ⟨v36, e36, p36⟩ := hn9 36 _ 8 rfl rfl
            obtain rfl : v0 = .int .i64 (B.length : Int) := p0
            obtain rfl : v1 = .slice a2 B.length c2 := p1
            obtain rfl : v2 = .int .i64 (B.length : Int) := p2
            obtain rfl : v3 = .bool true := p3
            obtain rfl : v4 = .bool true := p4
            obtain rfl : v5 = .bool false := p5
            obtain rfl : v6 = .slice a1 ([] : List Sc).length c1 := p6
            obtain rfl : v7 = .int .i64 (([] : List Sc).length : Int) := p7
            obtain rfl : v8 = .bool false := p8
            obtain rfl : v9 = .bool true := p9
            obtain rfl : v10 = .bool true := p10
            obtain rfl : v11 = .bool true := p11
            obtain rfl : v12 = .bool false := p12
            obtain rfl : v13 = .bool true := p13
            obtain rfl : v14 = .bool true := p14
            obtain rfl : v15 = undef := p15
            obtain rfl : v16 = undef := p16
            obtain rfl : v17 = undef := p17
            obtain rfl : v18 = undef := p18
            obtain rfl : v19 = undef := p19
            obtain rfl : v20 = undef := p20
            obtain rfl : v21 = undef := p21
            obtain rfl : v22 = undef := p22
            obtain rfl : v23 = undef := p23
            obtain rfl : v24 = .bool true := p24
            obtain rfl : v25 = .bool true := p25
            obtain rfl : v26 = .bool true := p26
            obtain rfl : v27 = .slice a1 ([] : List Sc).length c1 := p27
            obtain rfl : v28 = .int .i64 (([] : List Sc).length : Int) := p28
            obtain rfl : v29 = .slice s l.length c := p29
            obtain rfl : v30 = .int .i64 (l.length : Int) := p30
            obtain rfl : v31 = .bool true := p31
            obtain rfl : v32 = .bool true := p32
            obtain rfl : v33 = .bool true := p33
            obtain rfl : v34 = .bool true := p34
            obtain rfl : v35 = .bool true := p35
            obtain rfl : v36 = .bool true := p36
            have ha := ByOps.act_eq [(61, .int .i64 (B.length : Int)), (62, .slice a2 B.length c2), (63, .int .i64 (B.length : Int)), (64, .bool true), (65, .bool true), (66, .bool false), (67, .slice a1 ([] : List Sc).length c1), (68, .int .i64 (([] : List Sc).length : Int)), (69, .bool false), (70, .bool true), (71, .bool true), (72, .bool true), (73, .bool false), (74, .bool true), (75, .bool true), (76, undef), (77, undef), (78, undef), (79, undef), (80, undef), (81, undef), (82, undef), (83, undef), (84, undef), (85, .bool true), (86, .bool true), (87, .bool true), (88, .slice a1 ([] : List Sc).length c1), (89, .int .i64 (([] : List Sc).length : Int)), (90, .slice s l.length c), (91, .int .i64 (l.length : Int)), (92, .bool true), (93, .bool true), (94, .bool true), (95, .bool true), (96, .bool true), (8, .bool true)] a9 _ hd9 hs9 (fun t ht => ho9 t (ByOps.outer_of (ts := [61, 62, 63, 64, 65, 66, 67, 68, 69, 70, 71, 72, 73, 74, 75, 76, 77, 78, 79, 80, 81, 82, 83, 84, 85, 86, 87, 88, 89, 90, 91, 92, 93, 94, 95, 96, 8]) rfl ht)) (by intro p hp; simp only [List.mem_cons, List.not_mem_nil, or_false] at hp; rcases hp with rfl | rfl | rfl | rfl | rfl | rfl | rfl | rfl | rfl | rfl | rfl | rfl | rfl | rfl | rfl | rfl | rfl | rfl | rfl | rfl | rfl | rfl | rfl | rfl | rfl | rfl | rfl | rfl | rfl | rfl | rfl | rfl | rfl | rfl | rfl | rfl | rfl <;> assumption)
            rw [ha]
            clear ha hn9 ho9 hs9 hd9 e0 e1 e2 e3 e4 e5 e6 e7 e8 e9 e10 e11 e12 e13 e14 e15 e16 e17 e18 e19 e20 e21 e22 e23 e24 e25 e26 e27 e28 e29 e30 e31 e32 e33 e34 e35 e36
            simp only [List.foldl, Act.put, List.setIfInBounds_toArray, List.set_cons_zero, List.set_cons_succ]
            have hb9 : Below q4.heap.size q4 w9 := ⟨hB9.os, hB9.tape, hB9.output, hB9.size, hB9.block⟩
            clear hB9
            have hbf := HB.out.trans (hb9.mono HB.out.size)
            go_wp2_with fail
            go_ret
            exact ⟨rfl, hbf⟩
        · obtain ⟨tt, hlast, hyt⟩ := HW2.out hA0
          subst hyt
          obtain ⟨G, hG⟩ : ∃ G : Nat, A.length = G + 1 := ⟨A.length - 1, by have := List.length_pos_iff.2 hA0; omega⟩
          rw [hG] at hlast
          simp only [Nat.add_sub_cancel] at hlast
          obtain ⟨b1, o1, rfl, hb1, hat1⟩ := Ha.out.2.2.2 (by omega)
          have HC1 := Lib.hid (fun (W : World) (h : Below q4.heap.size q4 W) => SK.cells (hat1.below h hb1) hlast)
          have hwG : IntKind.i64.wrap ((A.length : Int) - 1) = (G : Int) := by rw [IntKind.wrap_i64]; omega
          have hgl : (G : Int) < (A.length : Int) := by omega
          have hg0 : (0 : Int) ≤ (G : Int) := by omega
          have hp1 : decide ((0 : Int) < (A.length : Int)) = true := decide_eq_true (by omega)
          have hp2 : 0 < A.length := by omega
          have hp3 : (0 : Int) < (A.length : Int) := by omega
          have hE := eql_ad ya ya
          rw [show decide (ya = ya) = true by simp] at hE
          have hgd := guard_ad
          clear hat1 hlast hG hA0 HW1 HW2
          refine ByOps.region_by_sk (by kernel_rfl) (ByOps.facts [.val (.int .i64 (B.length : Int)), .val (.slice a2 B.length c2), .val (.int .i64 (B.length : Int)), .val (.bool true), .val (.bool true), .val (.bool true), .val (.slice (some ⟨b1, o1, none⟩) A.length c1), .val (.int .i64 (A.length : Int)), .val (.bool true), .val (.bool true), .val (.bool true), .val (.bool true), .val (.bool true), .val (.bool false), .val (.bool false), .val (.slice (some ⟨b1, o1, none⟩) A.length c1), .val (.slice (some ⟨b1, o1, none⟩) A.length c1), .val (.int .i64 (A.length : Int)), .val (.int .i64 (G : Int)), .val (.pointer (some ⟨b1, o1 + G * 11, none⟩)), .val (.pointer (some ⟨b1, o1 + G * 11, none⟩)), .val (.agg #[.int .i8 ya.f, .int .u16 ya.g0, .int .u16 ya.g1, .int .u16 ya.g2, .int .u16 ya.g3, .int .u16 ya.g4, .int .u16 ya.g5, .int .u16 ya.g6, .int .u16 ya.g7, .int .i64 ya.p]), .val (.agg #[.int .i8 ya.f, .int .u16 ya.g0, .int .u16 ya.g1, .int .u16 ya.g2, .int .u16 ya.g3, .int .u16 ya.g4, .int .u16 ya.g5, .int .u16 ya.g6, .int .u16 ya.g7, .int .i64 ya.p]), .val (.bool true), .val (.bool true), .val (.bool true), .val (.bool true), .val (.slice (some ⟨b1, o1, none⟩) A.length c1), .val (.int .i64 (A.length : Int)), .val (.slice s l.length c), .val (.int .i64 (l.length : Int)), .val (.bool true), .val (.bool true), .val (.bool true), .val (.bool true), .val (.bool true), .val (.bool true)]) (ByOps.facts_up _) (by kernel_rfl) (fun _ => false) (ByOps.all_ops ?_) (ByOps.all_ops ?_) (ByOps.all_ops ?_) ?_
          · refine ⟨?_, ?_, ?_, ?_, ?_, ?_, ?_, ?_, ?_, ?_, ?_, ?_, ?_, ?_, ?_, ?_, ?_, ?_, ?_, ?_, ?_, ?_, ?_, ?_, ?_, ?_, ?_, ?_, ?_, ?_, ?_, ?_, ?_, ?_, ?_, ?_, ?_, trivial⟩
            · intro _ ρ w9 hB hs
              have hBB : Below q4.heap.size q4 w9 := ⟨hB.os, hB.tape, hB.output, hB.size, hB.block⟩
              have h11 : ρ (.tmp 11) = .int .i64 (B.length : Int) := (hs _ (by simp [Op.operands, Call.operands])).2 (fun t ht => by cases ht; kernel_rfl)
              exact ByOps.runs_value (by first | rfl | go_simp) (Below.refl _ _) h11
            · intro _ ρ w9 hB hs
              have hBB : Below q4.heap.size q4 w9 := ⟨hB.os, hB.tape, hB.output, hB.size, hB.block⟩
              have h10 : ρ (.tmp 10) = .slice a2 B.length c2 := (hs _ (by simp [Op.operands, Call.operands])).2 (fun t ht => by cases ht; kernel_rfl)
              exact ByOps.runs_value (by first | rfl | go_simp) (Below.refl _ _) h10
            · intro _ ρ w9 hB hs
              have hBB : Below q4.heap.size q4 w9 := ⟨hB.os, hB.tape, hB.output, hB.size, hB.block⟩
              have h62 : ρ (.tmp 62) = .slice a2 B.length c2 := (hs (.tmp 62) (by simp [Op.operands, Call.operands])).1 62 rfl 1 _ rfl rfl
              exact ByOps.runs_value (v := .int .i64 (B.length : Int)) (by first | rfl | go_simp) (Below.refl _ _) rfl
            · intro _ ρ w9 hB hs
              have hBB : Below q4.heap.size q4 w9 := ⟨hB.os, hB.tape, hB.output, hB.size, hB.block⟩
              have h61 : ρ (.tmp 61) = .int .i64 (B.length : Int) := (hs (.tmp 61) (by simp [Op.operands, Call.operands])).1 61 rfl 0 _ rfl rfl
              have h63 : ρ (.tmp 63) = .int .i64 (B.length : Int) := (hs (.tmp 63) (by simp [Op.operands, Call.operands])).1 63 rfl 2 _ rfl rfl
              exact ByOps.runs_value (v := .bool true) (by first | rfl | go_simp) (Below.refl _ _) rfl
            · intro _ ρ w9 hB hs
              have hBB : Below q4.heap.size q4 w9 := ⟨hB.os, hB.tape, hB.output, hB.size, hB.block⟩
              have h64 : ρ (.tmp 64) = .bool true := (hs (.tmp 64) (by simp [Op.operands, Call.operands])).1 64 rfl 3 _ rfl rfl
              exact ByOps.runs_value (by first | rfl | go_simp) (Below.refl _ _) h64
            · intro _ ρ w9 hB hs
              have hBB : Below q4.heap.size q4 w9 := ⟨hB.os, hB.tape, hB.output, hB.size, hB.block⟩
              have h14 : ρ (.tmp 14) = .bool true := (hs _ (by simp [Op.operands, Call.operands])).2 (fun t ht => by cases ht; kernel_rfl)
              exact ByOps.runs_value (by first | rfl | go_simp) (Below.refl _ _) h14
            · intro _ ρ w9 hB hs
              have hBB : Below q4.heap.size q4 w9 := ⟨hB.os, hB.tape, hB.output, hB.size, hB.block⟩
              have h9 : ρ (.tmp 9) = .slice (some ⟨b1, o1, none⟩) A.length c1 := (hs _ (by simp [Op.operands, Call.operands])).2 (fun t ht => by cases ht; kernel_rfl)
              exact ByOps.runs_value (by first | rfl | go_simp) (Below.refl _ _) h9
            · intro _ ρ w9 hB hs
              have hBB : Below q4.heap.size q4 w9 := ⟨hB.os, hB.tape, hB.output, hB.size, hB.block⟩
              have h67 : ρ (.tmp 67) = .slice (some ⟨b1, o1, none⟩) A.length c1 := (hs (.tmp 67) (by simp [Op.operands, Call.operands])).1 67 rfl 6 _ rfl rfl
              exact ByOps.runs_value (v := .int .i64 (A.length : Int)) (by first | rfl | go_simp) (Below.refl _ _) rfl
            · intro _ ρ w9 hB hs
              have hBB : Below q4.heap.size q4 w9 := ⟨hB.os, hB.tape, hB.output, hB.size, hB.block⟩
              have h68 : ρ (.tmp 68) = .int .i64 (A.length : Int) := (hs (.tmp 68) (by simp [Op.operands, Call.operands])).1 68 rfl 7 _ rfl rfl
              have hk : ρ (.const (.int .i64 0)) = .int .i64 0 := (hs _ (by simp [Op.operands, Call.operands])).2 (fun t ht => by cases ht)
              exact ByOps.runs_value (v := .bool true) (by first | rfl | go_simp) (Below.refl _ _) rfl
            · intro _ ρ w9 hB hs
              have hBB : Below q4.heap.size q4 w9 := ⟨hB.os, hB.tape, hB.output, hB.size, hB.block⟩
              have h66 : ρ (.tmp 66) = .bool true := (hs (.tmp 66) (by simp [Op.operands, Call.operands])).1 66 rfl 5 _ rfl rfl
              have h69 : ρ (.tmp 69) = .bool true := (hs (.tmp 69) (by simp [Op.operands, Call.operands])).1 69 rfl 8 _ rfl rfl
              exact ByOps.runs_value (v := .bool true) (by first | rfl | go_simp) (Below.refl _ _) rfl
            · intro _ ρ w9 hB hs
              have hBB : Below q4.heap.size q4 w9 := ⟨hB.os, hB.tape, hB.output, hB.size, hB.block⟩
              have h65 : ρ (.tmp 65) = .bool true := (hs (.tmp 65) (by simp [Op.operands, Call.operands])).1 65 rfl 4 _ rfl rfl
              have h70 : ρ (.tmp 70) = .bool true := (hs (.tmp 70) (by simp [Op.operands, Call.operands])).1 70 rfl 9 _ rfl rfl
              exact ByOps.runs_value (v := .bool true) (by first | rfl | go_simp) (Below.refl _ _) rfl
            · intro _ ρ w9 hB hs
              have hBB : Below q4.heap.size q4 w9 := ⟨hB.os, hB.tape, hB.output, hB.size, hB.block⟩
              have h71 : ρ (.tmp 71) = .bool true := (hs (.tmp 71) (by simp [Op.operands, Call.operands])).1 71 rfl 10 _ rfl rfl
              exact ByOps.runs_value (by first | rfl | go_simp) (Below.refl _ _) h71
            · intro _ ρ w9 hB hs
              have hBB : Below q4.heap.size q4 w9 := ⟨hB.os, hB.tape, hB.output, hB.size, hB.block⟩
              have h14 : ρ (.tmp 14) = .bool true := (hs _ (by simp [Op.operands, Call.operands])).2 (fun t ht => by cases ht; kernel_rfl)
              exact ByOps.runs_value (by first | rfl | go_simp) (Below.refl _ _) h14
            · intro _ ρ w9 hB hs
              have hBB : Below q4.heap.size q4 w9 := ⟨hB.os, hB.tape, hB.output, hB.size, hB.block⟩
              have h73 : ρ (.tmp 73) = .bool true := (hs (.tmp 73) (by simp [Op.operands, Call.operands])).1 73 rfl 12 _ rfl rfl
              exact ByOps.runs_value (v := .bool false) (by first | rfl | go_simp) (Below.refl _ _) rfl
            · intro _ ρ w9 hB hs
              have hBB : Below q4.heap.size q4 w9 := ⟨hB.os, hB.tape, hB.output, hB.size, hB.block⟩
              have h74 : ρ (.tmp 74) = .bool false := (hs (.tmp 74) (by simp [Op.operands, Call.operands])).1 74 rfl 13 _ rfl rfl
              exact ByOps.runs_value (by first | rfl | go_simp) (Below.refl _ _) h74
            · intro _ ρ w9 hB hs
              have hBB : Below q4.heap.size q4 w9 := ⟨hB.os, hB.tape, hB.output, hB.size, hB.block⟩
              have h9 : ρ (.tmp 9) = .slice (some ⟨b1, o1, none⟩) A.length c1 := (hs _ (by simp [Op.operands, Call.operands])).2 (fun t ht => by cases ht; kernel_rfl)
              exact ByOps.runs_value (by first | rfl | go_simp) (Below.refl _ _) h9
            · intro _ ρ w9 hB hs
              have hBB : Below q4.heap.size q4 w9 := ⟨hB.os, hB.tape, hB.output, hB.size, hB.block⟩
              have h9 : ρ (.tmp 9) = .slice (some ⟨b1, o1, none⟩) A.length c1 := (hs _ (by simp [Op.operands, Call.operands])).2 (fun t ht => by cases ht; kernel_rfl)
              exact ByOps.runs_value (by first | rfl | go_simp) (Below.refl _ _) h9
            · intro _ ρ w9 hB hs
              have hBB : Below q4.heap.size q4 w9 := ⟨hB.os, hB.tape, hB.output, hB.size, hB.block⟩
              have h77 : ρ (.tmp 77) = .slice (some ⟨b1, o1, none⟩) A.length c1 := (hs (.tmp 77) (by simp [Op.operands, Call.operands])).1 77 rfl 16 _ rfl rfl
              exact ByOps.runs_value (v := .int .i64 (A.length : Int)) (by first | rfl | go_simp) (Below.refl _ _) rfl
            · intro _ ρ w9 hB hs
              have hBB : Below q4.heap.size q4 w9 := ⟨hB.os, hB.tape, hB.output, hB.size, hB.block⟩
              have h78 : ρ (.tmp 78) = .int .i64 (A.length : Int) := (hs (.tmp 78) (by simp [Op.operands, Call.operands])).1 78 rfl 17 _ rfl rfl
              have hk : ρ (.const (.int .i64 1)) = .int .i64 1 := (hs _ (by simp [Op.operands, Call.operands])).2 (fun t ht => by cases ht)
              exact ByOps.runs_value (v := .int .i64 (G : Int)) (by first | rfl | go_simp) (Below.refl _ _) rfl
            · intro _ ρ w9 hB hs
              have hBB : Below q4.heap.size q4 w9 := ⟨hB.os, hB.tape, hB.output, hB.size, hB.block⟩
              have h76 : ρ (.tmp 76) = .slice (some ⟨b1, o1, none⟩) A.length c1 := (hs (.tmp 76) (by simp [Op.operands, Call.operands])).1 76 rfl 15 _ rfl rfl
              have h79 : ρ (.tmp 79) = .int .i64 (G : Int) := (hs (.tmp 79) (by simp [Op.operands, Call.operands])).1 79 rfl 18 _ rfl rfl
              exact ByOps.runs_value (v := .pointer (some ⟨b1, o1 + G * 11, none⟩)) (by first | rfl | go_simp) (Below.refl _ _) rfl
            · intro _ ρ w9 hB hs
              have hBB : Below q4.heap.size q4 w9 := ⟨hB.os, hB.tape, hB.output, hB.size, hB.block⟩
              have h80 : ρ (.tmp 80) = .pointer (some ⟨b1, o1 + G * 11, none⟩) := (hs (.tmp 80) (by simp [Op.operands, Call.operands])).1 80 rfl 19 _ rfl rfl
              exact ByOps.runs_value (v := .pointer (some ⟨b1, o1 + G * 11, none⟩)) (by first | rfl | go_simp) (Below.refl _ _) rfl
            · intro _ ρ w9 hB hs
              have hBB : Below q4.heap.size q4 w9 := ⟨hB.os, hB.tape, hB.output, hB.size, hB.block⟩
              have h81 : ρ (.tmp 81) = .pointer (some ⟨b1, o1 + G * 11, none⟩) := (hs (.tmp 81) (by simp [Op.operands, Call.operands])).1 81 rfl 20 _ rfl rfl
              obtain ⟨d0, d1, d2, d3, d4, d5, d6, d7, d8, d9, d10⟩ := HC1.out w9 hBB
              dsimp only at d0 d1 d2 d3 d4 d5 d6 d7 d8 d9 d10
              exact ByOps.runs_value (v := .agg #[.int .i8 ya.f, .int .u16 ya.g0, .int .u16 ya.g1, .int .u16 ya.g2, .int .u16 ya.g3, .int .u16 ya.g4, .int .u16 ya.g5, .int .u16 ya.g6, .int .u16 ya.g7, .int .i64 ya.p]) (by first | rfl | go_simp) (Below.refl _ _) rfl
            · intro _ ρ w9 hB hs
              have hBB : Below q4.heap.size q4 w9 := ⟨hB.os, hB.tape, hB.output, hB.size, hB.block⟩
              have h13 : ρ (.tmp 13) = .pointer (some ⟨bwy, 0, none⟩) := (hs _ (by simp [Op.operands, Call.operands])).2 (fun t ht => by cases ht; kernel_rfl)
              obtain ⟨⟨e0, e1, e2, e3, e4, e5, e6, e7, e8, e9⟩, _⟩ := box_10 ((hBB.block _ (lt_of_block Hwy.out)).trans Hwy.out)
              exact ByOps.runs_value (v := .agg #[.int .i8 ya.f, .int .u16 ya.g0, .int .u16 ya.g1, .int .u16 ya.g2, .int .u16 ya.g3, .int .u16 ya.g4, .int .u16 ya.g5, .int .u16 ya.g6, .int .u16 ya.g7, .int .i64 ya.p]) (by first | rfl | go_simp) (Below.refl _ _) rfl
            · intro _ ρ w9 hB hs
              have hBB : Below q4.heap.size q4 w9 := ⟨hB.os, hB.tape, hB.output, hB.size, hB.block⟩
              have h82 : ρ (.tmp 82) = .agg #[.int .i8 ya.f, .int .u16 ya.g0, .int .u16 ya.g1, .int .u16 ya.g2, .int .u16 ya.g3, .int .u16 ya.g4, .int .u16 ya.g5, .int .u16 ya.g6, .int .u16 ya.g7, .int .i64 ya.p] := (hs (.tmp 82) (by simp [Op.operands, Call.operands])).1 82 rfl 21 _ rfl rfl
              have h83 : ρ (.tmp 83) = .agg #[.int .i8 ya.f, .int .u16 ya.g0, .int .u16 ya.g1, .int .u16 ya.g2, .int .u16 ya.g3, .int .u16 ya.g4, .int .u16 ya.g5, .int .u16 ya.g6, .int .u16 ya.g7, .int .i64 ya.p] := (hs (.tmp 83) (by simp [Op.operands, Call.operands])).1 83 rfl 22 _ rfl rfl
              exact ByOps.runs_value (v := .bool true) (by first | rfl | go_simp) (Below.refl _ _) rfl
            · intro _ ρ w9 hB hs
              have hBB : Below q4.heap.size q4 w9 := ⟨hB.os, hB.tape, hB.output, hB.size, hB.block⟩
              have h75 : ρ (.tmp 75) = .bool false := (hs (.tmp 75) (by simp [Op.operands, Call.operands])).1 75 rfl 14 _ rfl rfl
              have h84 : ρ (.tmp 84) = .bool true := (hs (.tmp 84) (by simp [Op.operands, Call.operands])).1 84 rfl 23 _ rfl rfl
              exact ByOps.runs_value (v := .bool true) (by first | rfl | go_simp) (Below.refl _ _) rfl
            · intro _ ρ w9 hB hs
              have hBB : Below q4.heap.size q4 w9 := ⟨hB.os, hB.tape, hB.output, hB.size, hB.block⟩
              have h72 : ρ (.tmp 72) = .bool true := (hs (.tmp 72) (by simp [Op.operands, Call.operands])).1 72 rfl 11 _ rfl rfl
              have h85 : ρ (.tmp 85) = .bool true := (hs (.tmp 85) (by simp [Op.operands, Call.operands])).1 85 rfl 24 _ rfl rfl
              exact ByOps.runs_value (v := .bool true) (by first | rfl | go_simp) (Below.refl _ _) rfl
            · intro _ ρ w9 hB hs
              have hBB : Below q4.heap.size q4 w9 := ⟨hB.os, hB.tape, hB.output, hB.size, hB.block⟩
              have h86 : ρ (.tmp 86) = .bool true := (hs (.tmp 86) (by simp [Op.operands, Call.operands])).1 86 rfl 25 _ rfl rfl
              exact ByOps.runs_value (by first | rfl | go_simp) (Below.refl _ _) h86
            · intro _ ρ w9 hB hs
              have hBB : Below q4.heap.size q4 w9 := ⟨hB.os, hB.tape, hB.output, hB.size, hB.block⟩
              have h9 : ρ (.tmp 9) = .slice (some ⟨b1, o1, none⟩) A.length c1 := (hs _ (by simp [Op.operands, Call.operands])).2 (fun t ht => by cases ht; kernel_rfl)
              exact ByOps.runs_value (by first | rfl | go_simp) (Below.refl _ _) h9
            · intro _ ρ w9 hB hs
              have hBB : Below q4.heap.size q4 w9 := ⟨hB.os, hB.tape, hB.output, hB.size, hB.block⟩
              have h88 : ρ (.tmp 88) = .slice (some ⟨b1, o1, none⟩) A.length c1 := (hs (.tmp 88) (by simp [Op.operands, Call.operands])).1 88 rfl 27 _ rfl rfl
              exact ByOps.runs_value (v := .int .i64 (A.length : Int)) (by first | rfl | go_simp) (Below.refl _ _) rfl
            · intro _ ρ w9 hB hs
              have hBB : Below q4.heap.size q4 w9 := ⟨hB.os, hB.tape, hB.output, hB.size, hB.block⟩
              have h0 : ρ (.tmp 0) = .slice s l.length c := (hs _ (by simp [Op.operands, Call.operands])).2 (fun t ht => by cases ht; kernel_rfl)
              exact ByOps.runs_value (by first | rfl | go_simp) (Below.refl _ _) h0
            · intro _ ρ w9 hB hs
              have hBB : Below q4.heap.size q4 w9 := ⟨hB.os, hB.tape, hB.output, hB.size, hB.block⟩
              have h90 : ρ (.tmp 90) = .slice s l.length c := (hs (.tmp 90) (by simp [Op.operands, Call.operands])).1 90 rfl 29 _ rfl rfl
              exact ByOps.runs_value (v := .int .i64 (l.length : Int)) (by first | rfl | go_simp) (Below.refl _ _) rfl
            · intro _ ρ w9 hB hs
              have hBB : Below q4.heap.size q4 w9 := ⟨hB.os, hB.tape, hB.output, hB.size, hB.block⟩
              have h89 : ρ (.tmp 89) = .int .i64 (A.length : Int) := (hs (.tmp 89) (by simp [Op.operands, Call.operands])).1 89 rfl 28 _ rfl rfl
              have h91 : ρ (.tmp 91) = .int .i64 (l.length : Int) := (hs (.tmp 91) (by simp [Op.operands, Call.operands])).1 91 rfl 30 _ rfl rfl
              exact ByOps.runs_value (v := .bool true) (by first | rfl | go_simp) (Below.refl _ _) rfl
            · intro _ ρ w9 hB hs
              have hBB : Below q4.heap.size q4 w9 := ⟨hB.os, hB.tape, hB.output, hB.size, hB.block⟩
              have h87 : ρ (.tmp 87) = .bool true := (hs (.tmp 87) (by simp [Op.operands, Call.operands])).1 87 rfl 26 _ rfl rfl
              have h92 : ρ (.tmp 92) = .bool true := (hs (.tmp 92) (by simp [Op.operands, Call.operands])).1 92 rfl 31 _ rfl rfl
              exact ByOps.runs_value (v := .bool true) (by first | rfl | go_simp) (Below.refl _ _) rfl
            · intro _ ρ w9 hB hs
              have hBB : Below q4.heap.size q4 w9 := ⟨hB.os, hB.tape, hB.output, hB.size, hB.block⟩
              have h93 : ρ (.tmp 93) = .bool true := (hs (.tmp 93) (by simp [Op.operands, Call.operands])).1 93 rfl 32 _ rfl rfl
              exact ByOps.runs_value (by first | rfl | go_simp) (Below.refl _ _) h93
            · intro _ ρ w9 hB hs
              have hBB : Below q4.heap.size q4 w9 := ⟨hB.os, hB.tape, hB.output, hB.size, hB.block⟩
              have hfn : ρ (.func 8) = .func (.func 8) #[] #[] := (hs _ (by simp [Op.operands, Call.operands])).2 (fun t ht => by cases ht)
              refine ByOps.runs_enter (f := 8) (args := #[]) (by go_simp) ?_
              exact (HWk.out w9).mono fun e w2 ⟨he, hb⟩ => ⟨_, he, hb, rfl⟩
            · intro _ ρ w9 hB hs
              have hBB : Below q4.heap.size q4 w9 := ⟨hB.os, hB.tape, hB.output, hB.size, hB.block⟩
              have h94 : ρ (.tmp 94) = .bool true := (hs (.tmp 94) (by simp [Op.operands, Call.operands])).1 94 rfl 33 _ rfl rfl
              have h95 : ρ (.tmp 95) = .bool true := (hs (.tmp 95) (by simp [Op.operands, Call.operands])).1 95 rfl 34 _ rfl rfl
              exact ByOps.runs_value (v := .bool true) (by first | rfl | go_simp) (Below.refl _ _) rfl
            · intro _ ρ w9 hB hs
              have hBB : Below q4.heap.size q4 w9 := ⟨hB.os, hB.tape, hB.output, hB.size, hB.block⟩
              have h96 : ρ (.tmp 96) = .bool true := (hs (.tmp 96) (by simp [Op.operands, Call.operands])).1 96 rfl 35 _ rfl rfl
              exact ByOps.runs_value (by first | rfl | go_simp) (Below.refl _ _) h96
          · refine ⟨?_, ?_, ?_, ?_, ?_, ?_, ?_, ?_, ?_, ?_, ?_, ?_, ?_, ?_, ?_, ?_, ?_, ?_, ?_, ?_, ?_, ?_, ?_, ?_, ?_, ?_, ?_, ?_, ?_, ?_, ?_, ?_, ?_, ?_, ?_, ?_, ?_, trivial⟩
            all_goals first | (intro hs0; cases hs0; done) | (intro _; exact ⟨by simp, fun _ => rfl⟩)
          · refine ⟨?_, ?_, ?_, ?_, ?_, ?_, ?_, ?_, ?_, ?_, ?_, ?_, ?_, ?_, ?_, ?_, ?_, ?_, ?_, ?_, ?_, ?_, ?_, ?_, ?_, ?_, ?_, ?_, ?_, ?_, ?_, ?_, ?_, ?_, ?_, ?_, ?_, trivial⟩
            all_goals first | (intro g b h; cases h; done) | (intro g b h; cases h; intro v w h; exact ⟨fun h0 => (by first | exact h | cases h0), fun h0 => (by first | cases h0; done | exact .inl h | exact .inr h)⟩)
          · intro a9 w9 hd9 hs9 ho9 hn9 hB9
            obtain ⟨v0, e0, p0⟩ := hn9 0 _ 61 rfl rfl
            obtain ⟨v1, e1, p1⟩ := hn9 1 _ 62 rfl rfl
            obtain ⟨v2, e2, p2⟩ := hn9 2 _ 63 rfl rfl
            obtain ⟨v3, e3, p3⟩ := hn9 3 _ 64 rfl rfl
            obtain ⟨v4, e4, p4⟩ := hn9 4 _ 65 rfl rfl
            obtain ⟨v5, e5, p5⟩ := hn9 5 _ 66 rfl rfl
            obtain ⟨v6, e6, p6⟩ := hn9 6 _ 67 rfl rfl
            obtain ⟨v7, e7, p7⟩ := hn9 7 _ 68 rfl rfl
            obtain ⟨v8, e8, p8⟩ := hn9 8 _ 69 rfl rfl
            obtain ⟨v9, e9, p9⟩ := hn9 9 _ 70 rfl rfl
            obtain ⟨v10, e10, p10⟩ := hn9 10 _ 71 rfl rfl
            obtain ⟨v11, e11, p11⟩ := hn9 11 _ 72 rfl rfl
            obtain ⟨v12, e12, p12⟩ := hn9 12 _ 73 rfl rfl
            obtain ⟨v13, e13, p13⟩ := hn9 13 _ 74 rfl rfl
            obtain ⟨v14, e14, p14⟩ := hn9 14 _ 75 rfl rfl
            obtain ⟨v15, e15, p15⟩ := hn9 15 _ 76 rfl rfl
            obtain ⟨v16, e16, p16⟩ := hn9 16 _ 77 rfl rfl
            obtain ⟨v17, e17, p17⟩ := hn9 17 _ 78 rfl rfl
            obtain ⟨v18, e18, p18⟩ := hn9 18 _ 79 rfl rfl
            obtain ⟨v19, e19, p19⟩ := hn9 19 _ 80 rfl rfl
            obtain ⟨v20, e20, p20⟩ := hn9 20 _ 81 rfl rfl
            obtain ⟨v21, e21, p21⟩ := hn9 21 _ 82 rfl rfl
            obtain ⟨v22, e22, p22⟩ := hn9 22 _ 83 rfl rfl
            obtain ⟨v23, e23, p23⟩ := hn9 23 _ 84 rfl rfl
            obtain ⟨v24, e24, p24⟩ := hn9 24 _ 85 rfl rfl
            obtain ⟨v25, e25, p25⟩ := hn9 25 _ 86 rfl rfl
            obtain ⟨v26, e26, p26⟩ := hn9 26 _ 87 rfl rfl
            obtain ⟨v27, e27, p27⟩ := hn9 27 _ 88 rfl rfl
            obtain ⟨v28, e28, p28⟩ := hn9 28 _ 89 rfl rfl
            obtain ⟨v29, e29, p29⟩ := hn9 29 _ 90 rfl rfl
            obtain ⟨v30, e30, p30⟩ := hn9 30 _ 91 rfl rfl
            obtain ⟨v31, e31, p31⟩ := hn9 31 _ 92 rfl rfl
            obtain ⟨v32, e32, p32⟩ := hn9 32 _ 93 rfl rfl
            obtain ⟨v33, e33, p33⟩ := hn9 33 _ 94 rfl rfl
            obtain ⟨v34, e34, p34⟩ := hn9 34 _ 95 rfl rfl
            obtain ⟨v35, e35, p35⟩ := hn9 35 _ 96 rfl rfl
            obtain ⟨v36, e36, p36⟩ := hn9 36 _ 8 rfl rfl
            obtain rfl : v0 = .int .i64 (B.length : Int) := p0
            obtain rfl : v1 = .slice a2 B.length c2 := p1
            obtain rfl : v2 = .int .i64 (B.length : Int) := p2
            obtain rfl : v3 = .bool true := p3
            obtain rfl : v4 = .bool true := p4
            obtain rfl : v5 = .bool true := p5
            obtain rfl : v6 = .slice (some ⟨b1, o1, none⟩) A.length c1 := p6
            obtain rfl : v7 = .int .i64 (A.length : Int) := p7
            obtain rfl : v8 = .bool true := p8
            obtain rfl : v9 = .bool true := p9
            obtain rfl : v10 = .bool true := p10
            obtain rfl : v11 = .bool true := p11
            obtain rfl : v12 = .bool true := p12
            obtain rfl : v13 = .bool false := p13
            obtain rfl : v14 = .bool false := p14
            obtain rfl : v15 = .slice (some ⟨b1, o1, none⟩) A.length c1 := p15
            obtain rfl : v16 = .slice (some ⟨b1, o1, none⟩) A.length c1 := p16
            obtain rfl : v17 = .int .i64 (A.length : Int) := p17
            obtain rfl : v18 = .int .i64 (G : Int) := p18
            obtain rfl : v19 = .pointer (some ⟨b1, o1 + G * 11, none⟩) := p19
            obtain rfl : v20 = .pointer (some ⟨b1, o1 + G * 11, none⟩) := p20
            obtain rfl : v21 = .agg #[.int .i8 ya.f, .int .u16 ya.g0, .int .u16 ya.g1, .int .u16 ya.g2, .int .u16 ya.g3, .int .u16 ya.g4, .int .u16 ya.g5, .int .u16 ya.g6, .int .u16 ya.g7, .int .i64 ya.p] := p21
            obtain rfl : v22 = .agg #[.int .i8 ya.f, .int .u16 ya.g0, .int .u16 ya.g1, .int .u16 ya.g2, .int .u16 ya.g3, .int .u16 ya.g4, .int .u16 ya.g5, .int .u16 ya.g6, .int .u16 ya.g7, .int .i64 ya.p] := p22
            obtain rfl : v23 = .bool true := p23
            obtain rfl : v24 = .bool true := p24
            obtain rfl : v25 = .bool true := p25
            obtain rfl : v26 = .bool true := p26
            obtain rfl : v27 = .slice (some ⟨b1, o1, none⟩) A.length c1 := p27
            obtain rfl : v28 = .int .i64 (A.length : Int) := p28
            obtain rfl : v29 = .slice s l.length c := p29
            obtain rfl : v30 = .int .i64 (l.length : Int) := p30
            obtain rfl : v31 = .bool true := p31
            obtain rfl : v32 = .bool true := p32
            obtain rfl : v33 = .bool true := p33
            obtain rfl : v34 = .bool true := p34
            obtain rfl : v35 = .bool true := p35
            obtain rfl : v36 = .bool true := p36
            have ha := ByOps.act_eq [(61, .int .i64 (B.length : Int)), (62, .slice a2 B.length c2), (63, .int .i64 (B.length : Int)), (64, .bool true), (65, .bool true), (66, .bool true), (67, .slice (some ⟨b1, o1, none⟩) A.length c1), (68, .int .i64 (A.length : Int)), (69, .bool true), (70, .bool true), (71, .bool true), (72, .bool true), (73, .bool true), (74, .bool false), (75, .bool false), (76, .slice (some ⟨b1, o1, none⟩) A.length c1), (77, .slice (some ⟨b1, o1, none⟩) A.length c1), (78, .int .i64 (A.length : Int)), (79, .int .i64 (G : Int)), (80, .pointer (some ⟨b1, o1 + G * 11, none⟩)), (81, .pointer (some ⟨b1, o1 + G * 11, none⟩)), (82, .agg #[.int .i8 ya.f, .int .u16 ya.g0, .int .u16 ya.g1, .int .u16 ya.g2, .int .u16 ya.g3, .int .u16 ya.g4, .int .u16 ya.g5, .int .u16 ya.g6, .int .u16 ya.g7, .int .i64 ya.p]), (83, .agg #[.int .i8 ya.f, .int .u16 ya.g0, .int .u16 ya.g1, .int .u16 ya.g2, .int .u16 ya.g3, .int .u16 ya.g4, .int .u16 ya.g5, .int .u16 ya.g6, .int .u16 ya.g7, .int .i64 ya.p]), (84, .bool true), (85, .bool true), (86, .bool true), (87, .bool true), (88, .slice (some ⟨b1, o1, none⟩) A.length c1), (89, .int .i64 (A.length : Int)), (90, .slice s l.length c), (91, .int .i64 (l.length : Int)), (92, .bool true), (93, .bool true), (94, .bool true), (95, .bool true), (96, .bool true), (8, .bool true)] a9 _ hd9 hs9 (fun t ht => ho9 t (ByOps.outer_of (ts := [61, 62, 63, 64, 65, 66, 67, 68, 69, 70, 71, 72, 73, 74, 75, 76, 77, 78, 79, 80, 81, 82, 83, 84, 85, 86, 87, 88, 89, 90, 91, 92, 93, 94, 95, 96, 8]) rfl ht)) (by intro p hp; simp only [List.mem_cons, List.not_mem_nil, or_false] at hp; rcases hp with rfl | rfl | rfl | rfl | rfl | rfl | rfl | rfl | rfl | rfl | rfl | rfl | rfl | rfl | rfl | rfl | rfl | rfl | rfl | rfl | rfl | rfl | rfl | rfl | rfl | rfl | rfl | rfl | rfl | rfl | rfl | rfl | rfl | rfl | rfl | rfl | rfl <;> assumption)
            rw [ha]
            clear ha hn9 ho9 hs9 hd9 e0 e1 e2 e3 e4 e5 e6 e7 e8 e9 e10 e11 e12 e13 e14 e15 e16 e17 e18 e19 e20 e21 e22 e23 e24 e25 e26 e27 e28 e29 e30 e31 e32 e33 e34 e35 e36
            simp only [List.foldl, Act.put, List.setIfInBounds_toArray, List.set_cons_zero, List.set_cons_succ]
            have hb9 : Below q4.heap.size q4 w9 := ⟨hB9.os, hB9.tape, hB9.output, hB9.size, hB9.block⟩
            clear hB9
            have hbf := HB.out.trans (hb9.mono HB.out.size)
            go_wp2_with fail
            go_ret
            exact ⟨rfl, hbf⟩
end Go.Proofs.Ytipbkhbdnjhofaa
