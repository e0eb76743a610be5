/- Package pace as it landed: whether a history keeps the pace. -/
import Derived.Test.YtpncgcaepdkcnaaLandD
set_option linter.unusedSimpArgs false
set_option linter.unusedVariables false
namespace Go.Proofs.Ytpncgcaepdkcnaa
open R3 Go.RowKit Go.Proofs.Ytpncgcaepdkcnaa.Kind

theorem rowC_draw {α : Type} {Pr : Program} {K : Kind Pr α} {w : World} {a : Option Addr} {c : Nat} {l : List α} (h : K.RowC w a c l) : K.RowC w.drew a c l := h
set_option maxHeartbeats 20000000 in
set_option maxRecDepth 1000000 in
theorem keeps_spec : KeepsSpec := by
  intro g l s c r w hr hl hR
  have HRr := Lib.hid hr
  have HR := Lib.hid hR
  clear hr hR
  go_enter Try.func11, Try.ntmps11
  go_wp2_with fail
  refine wp_scope_straight ?_
  go_wp2_with fail
  refine wp_label ?_
  go_wp2_with fail
  go_loopw [6, 11] (fun kp i wr => ∃ (k fc : Nat) (fa : Option Addr) (F : List Bool) (since : Int), kp = .bool true ∧ i = .int .i64 k ∧ k ≤ l.length ∧ F.length ≤ k ∧ Hid (Hist g (l.take k) F since) ∧ Hid (wr.heap[w.heap.size]? = some (.cells #[.slice fa F.length fc, .int .i64 since] 50 (0, 0))) ∧ Hid (BK.Own wr (w.heap.size + 1) (.slice fa F.length fc) F) ∧ Hid (Below w.heap.size w wr)) (fun _ i _ => l.length - (intOf i).toNat)
  case atStart => exact ⟨0, 0, none, [], 0, rfl, rfl, by omega, by simp, Lib.hid (hist_nil _ _), Lib.hid (laid1 _ _), Lib.hid (own_nil _ _), Lib.hid (below1 _ _)⟩
  case round =>
    obtain ⟨k, fc, fa, F, since, rfl, rfl, hk, hFk, hH, hS, hO, hB⟩ := hrel
    have HH := Lib.hid hH.out
    have HS := Lib.hid hS.out
    have HO := Lib.hid hO.out
    have HB := Lib.hid hB.out
    have hsz := HB.out.size
    have hslt := lt_of_block HS.out
    clear hH hS hO hB
    by_cases hlt : k < l.length
    · obtain ⟨b, o, rfl, hb, hat⟩ := HR.out.2.2.2 (by omega)
      obtain ⟨⟨f, n, t⟩, hx⟩ : ∃ x, l[k]? = some x := ⟨_, List.getElem?_eq_getElem hlt⟩
      obtain ⟨c0, c1, c2⟩ := PK.cells (hat.below HB.out hb) hx
      dsimp only at c0 c1 c2
      have HX := Lib.hid hx
      have HAT := Lib.hid hat
      have hst : l.take (k + 1) = l.take k ++ [⟨f, n, t⟩] := by rw [List.take_add_one, hx]; rfl
      have HST := Lib.hid hst
      have HOK := Lib.hid (HH.out.ok f n t)
      have HNO := Lib.hid (fun h => (HRr.out.trans (keeps_not hx h) : r = false))
      clear hst hx hat
      go_upto_region 7 with fail
      obtain ⟨W, hW⟩ : ∃ X, X = wr.alloc (.cells #[.bool f, .int .i64 n, .int .i64 t] 26) := ⟨_, rfl⟩
      have hb1 : Below wr.heap.size wr W := by rw [hW]; exact below1 _ _
      have hgx : W.heap[wr.heap.size]? = some (.cells #[.bool f, .int .i64 n, .int .i64 t] 26 (0, 0)) := by rw [hW]; exact laid1 _ _
      rw [← hW]
      have HOW := Lib.hid (HO.out.below hb1 (Nat.le_refl _))
      have hgs := (hb1.block _ hslt).trans HS.out
      have HBW := Lib.hid (HB.out.trans (hb1.mono hsz))
      clear hW c0 c1 c2 hb1
      obtain ⟨⟨c0, c1, c2⟩, q0, q1, q2⟩ := box_3 hgx
      obtain ⟨⟨d0, d1⟩, d2, d3⟩ := box_2 hgs
      have HGX := Lib.hid hgx
      have HGS := Lib.hid hgs
      have hszW := HBW.out.size
      have hsltW := lt_of_block hgs
      have hxltW := lt_of_block hgx
      clear hgx hgs
      by_cases hk0 : k = 0
      · have HRI := Lib.hid (show riseP (l.take k) ⟨f, n, t⟩ = true by rw [hk0]; rfl)
        have hd : decide ((0 : Int) < (k : Int)) = false := decide_eq_false (by omega)
        have hd2 : decide (0 < k) = false := decide_eq_false (by omega)
        have hd3 : ¬ 0 < k := by omega
        clear hk0
        go_quiet (fail)
        have HMF := Lib.hid (fun (m : Bool) (hm : m = mayFailP F n) (W1 : World) (h : Below W.heap.size W W1) => mayfail_any F since n m fa fc W1 hm (by omega) (HOW.out.row.below h))
        have HMS := Lib.hid (fun (m : Bool) (hm : m = mayStartP F since n g t) (W1 : World) (h : Below W.heap.size W W1) => maystart_any F since g n t f m fa fc W1 hm (by omega) (HOW.out.row.below h))
        cases f with
        | true =>
          obtain ⟨m, hm⟩ : ∃ m, m = mayFailP F n := ⟨_, rfl⟩
          have HM := Lib.hid hm
          have HX1 := Lib.hid (HMF.out m hm)
          clear hm HMF HMS
          go_wp2_with fail
          (with_reducible refine (HX1.out _ (below_drewN (Below.refl _ _) _)).mono ?_)
          rintro e w1 ⟨rfl, hb⟩
          have hb1 : Below W.heap.size W w1 := (below_drewN (Below.refl _ _) _).trans hb
          have hgx := (hb1.block _ hxltW).trans HGX.out
          have hgs := (hb1.block _ hsltW).trans HGS.out
          have HO1 := Lib.hid (HOW.out.below hb1 (Nat.le_refl _))
          have HB1 := Lib.hid (HBW.out.trans (hb1.mono hszW))
          clear c0 c1 c2 q0 q1 q2 d0 d1 d2 d3 hb hb1 HX1
          obtain ⟨⟨c0, c1, c2⟩, q0, q1, q2⟩ := box_3 hgx
          obtain ⟨⟨d0, d1⟩, d2, d3⟩ := box_2 hgs
          have HGX1 := Lib.hid hgx
          have HGS1 := Lib.hid hgs
          clear hgx hgs
          cases m with
          | true =>
            obtain ⟨u, hu, hun⟩ : ∃ u : Nat, n = u ∧ u < F.length := by
              have h := HM.out.symm
              unfold mayFailP at h
              rw [Bool.and_eq_true, Bool.and_eq_true] at h
              have h0 := of_decide_eq_true h.1.1
              have h1 := of_decide_eq_true h.1.2
              exact ⟨n.toNat, by omega, by omega⟩
            omega
          | false =>
            have HF := Lib.hid (HNO.out (by rw [HOK.out, HRI.out, Bool.true_and]; simpa using HM.out.symm))
            go_wp2_with fail
            dsimp only [Exit.noGoto]
            go_ret
            exact ⟨by rw [HF.out]; rfl, HB1.out⟩
        | false =>
          obtain ⟨m, hm⟩ : ∃ m, m = mayStartP F since n g t := ⟨_, rfl⟩
          have HM := Lib.hid hm
          have HX1 := Lib.hid (HMS.out m hm)
          clear hm HMF HMS
          go_wp2_with fail
          (with_reducible refine (HX1.out _ (below_drewN (Below.refl _ _) _)).mono ?_)
          rintro e w1 ⟨rfl, hb⟩
          have hb1 : Below W.heap.size W w1 := (below_drewN (Below.refl _ _) _).trans hb
          have hgx := (hb1.block _ hxltW).trans HGX.out
          have hgs := (hb1.block _ hsltW).trans HGS.out
          have HO1 := Lib.hid (HOW.out.below hb1 (Nat.le_refl _))
          have HB1 := Lib.hid (HBW.out.trans (hb1.mono hszW))
          have hsz1 := HB1.out.size
          have hslt1 := lt_of_block hgs
          have hxlt1 := lt_of_block hgx
          clear c0 c1 c2 q0 q1 q2 d0 d1 d2 d3 hb hb1 HX1
          obtain ⟨⟨c0, c1, c2⟩, q0, q1, q2⟩ := box_3 hgx
          obtain ⟨⟨d0, d1⟩, d2, d3⟩ := box_2 hgs
          have HGX1 := Lib.hid hgx
          have HGS1 := Lib.hid hgs
          have hne := HO1.out.ne hgs (by decide)
          have hnx := HO1.out.ne hgx (by decide)
          clear hgx hgs
          cases m with
          | true =>
            have HH2 := Lib.hid (HH.out.start HRI.out HM.out.symm)
            rw [← HST.out] at HH2
            have hlen : (F ++ [false]).length = F.length + 1 := by simp
            have hbZ := below1 w1 (.cells #[.bool false] 4)
            have hgxZ := (hbZ.block _ hxlt1).trans HGX1.out
            have hgsZ := (hbZ.block _ hslt1).trans HGS1.out
            obtain ⟨⟨x0, x1, x2⟩, x3, x4, x5⟩ := box_3 hgxZ
            obtain ⟨⟨y0, y1⟩, y2, y3⟩ := box_2 hgsZ
            have HOZ := Lib.hid (HO1.out.below hbZ (Nat.le_refl _)).draw
            have HK := Lib.hid (rowC_draw <| rowC_at (K := BK) w1 4 [false] #[.bool false] w1.heap.size 1 rfl rfl rfl (by simp))
            have HZ := Lib.hid (HB1.out.trans (hbZ.mono hsz1))
            have HGXZ := Lib.hid hgxZ
            have HGSZ := Lib.hid hgsZ
            clear hbZ hgxZ hgsZ
            go_wp2_with fail
            go_region_law (refine BK.step_append_owned rfl _ _ rfl (w.heap.size + 1) (.slice fa F.length fc) rfl F HOZ.out (some ⟨w1.heap.size, 0, none⟩) 1 1 rfl [false] rfl HK.out (by simp; omega) (by simp; omega) (F ++ [false]) rfl ?_; intro a3 c3 w3 hO3 hG3; have HO3 := Lib.hid hO3; have hg1 := (hG3.block w.heap.size (by simp; omega) (fun e => hne e.symm)).trans HGSZ.out; have hg2 := (hG3.block wr.heap.size (by simp; omega) (fun e => hnx e.symm)).trans HGXZ.out; have HG1 := Lib.hid hg1; obtain ⟨⟨z0, z1⟩, z2, z3⟩ := box_2 hg1; obtain ⟨⟨v0, v1, v2⟩, v3, v4, v5⟩ := box_3 hg2; have HB3 := Lib.hid (HZ.out.drew.grown hG3 (by simp; omega) (fun j hj => by have := (HOZ.out.lt j hj).1; omega)); have hs3 := lt_of_block hg1; clear hO3 hG3 hg1 hg2)
            all_goals
              go_wp2_with fail
              go_roundw
              case rel => exact ⟨k + 1, c3, a3, F ++ [false], t, rfl, by go_num, by omega, by simp; omega, HH2, Lib.hid (by rw [hlen]; exact set_at (set_at HG1.out 0 _) 1 _), Lib.hid ((HO3.out.set (by simp) _).set (by simp) _), Lib.hid ((HB3.out.setCell (by simp) _).setCell (by simp) _)⟩
              case measure => simp [intOf]; omega
          | false =>
            have HF := Lib.hid (HNO.out (by rw [HOK.out, HRI.out, Bool.true_and]; simpa using HM.out.symm))
            go_wp2_with fail
            dsimp only [Exit.noGoto]
            go_ret
            exact ⟨by rw [HF.out]; rfl, HB1.out⟩
      · obtain ⟨j, hj⟩ : ∃ j, k = j + 1 := ⟨k - 1, by omega⟩
        obtain ⟨y, hy⟩ : ∃ y, l[j]? = some y := ⟨_, List.getElem?_eq_getElem (by omega)⟩
        obtain ⟨_, _, e2⟩ := PK.cells (HAT.out.below HBW.out hb) hy
        have HRE := Lib.hid (show riseP (l.take k) ⟨f, n, t⟩ = decide (y.at_ ≤ t) by rw [hj]; exact rise_at hy _)
        have hd : decide ((0 : Int) < (k : Int)) = true := decide_eq_true (by omega)
        have hd2 : decide (0 < k) = true := decide_eq_true (by omega)
        have hd3 : 0 < k := by omega
        have hw1 : IntKind.i64.wrap ((k : Int) - 1) = (j : Int) := by rw [IntKind.wrap_i64]; omega
        have hji : (j : Int) < (l.length : Int) := by omega
        have hjn : j < l.length := by omega
        have HJ := Lib.hid hj
        clear hy hj hk0
        by_cases hyt : t < y.at_
        · have HF := Lib.hid (HNO.out (by rw [HOK.out, HRE.out, decide_eq_false (by omega), Bool.false_and]))
          have hdy := decide_eq_true hyt
          go_quiet (fail)
          go_wp2_with fail
          dsimp only [Exit.noGoto]
          go_ret
          exact ⟨by rw [HF.out]; rfl, below_drewN HBW.out _⟩
        · have HRI := Lib.hid (show riseP (l.take k) ⟨f, n, t⟩ = true by rw [HRE.out]; exact decide_eq_true (by omega))
          have hdy := decide_eq_false hyt
          go_quiet (fail)
          clear e2
          have HMF := Lib.hid (fun (m : Bool) (hm : m = mayFailP F n) (W1 : World) (h : Below W.heap.size W W1) => mayfail_any F since n m fa fc W1 hm (by omega) (HOW.out.row.below h))
          have HMS := Lib.hid (fun (m : Bool) (hm : m = mayStartP F since n g t) (W1 : World) (h : Below W.heap.size W W1) => maystart_any F since g n t f m fa fc W1 hm (by omega) (HOW.out.row.below h))
          cases f with
          | true =>
            obtain ⟨m, hm⟩ : ∃ m, m = mayFailP F n := ⟨_, rfl⟩
            have HM := Lib.hid hm
            have HX1 := Lib.hid (HMF.out m hm)
            clear hm HMF HMS
            go_wp2_with fail
            (with_reducible refine (HX1.out _ (below_drewN (Below.refl _ _) _)).mono ?_)
            rintro e w1 ⟨rfl, hb⟩
            have hb1 : Below W.heap.size W w1 := (below_drewN (Below.refl _ _) _).trans hb
            have hgx := (hb1.block _ hxltW).trans HGX.out
            have hgs := (hb1.block _ hsltW).trans HGS.out
            have HO1 := Lib.hid (HOW.out.below hb1 (Nat.le_refl _))
            have HB1 := Lib.hid (HBW.out.trans (hb1.mono hszW))
            clear c0 c1 c2 q0 q1 q2 d0 d1 d2 d3 hb hb1 HX1
            obtain ⟨⟨c0, c1, c2⟩, q0, q1, q2⟩ := box_3 hgx
            obtain ⟨⟨d0, d1⟩, d2, d3⟩ := box_2 hgs
            have HGX1 := Lib.hid hgx
            have HGS1 := Lib.hid hgs
            clear hgx hgs
            cases m with
            | true =>
              obtain ⟨u, hu, hun⟩ : ∃ u : Nat, n = u ∧ u < F.length := by
                have h := HM.out.symm
                unfold mayFailP at h
                rw [Bool.and_eq_true, Bool.and_eq_true] at h
                have h0 := of_decide_eq_true h.1.1
                have h1 := of_decide_eq_true h.1.2
                exact ⟨n.toNat, by omega, by omega⟩
              subst hu
              obtain ⟨x, hx⟩ : ∃ x, F[u]? = some x := ⟨_, List.getElem?_eq_getElem hun⟩
              obtain ⟨gf, rfl, hgf, hgfl, e0, e1, hO2⟩ := BK.poke HO1.out hx true
              have HH2 := Lib.hid (HH.out.fail HRI.out HM.out.symm)
              rw [← HST.out] at HH2
              have HO2 := Lib.hid hO2
              have hui : (u : Int) < (F.length : Int) := by omega
              clear hx hO2
              go_wp2_with fail
              go_roundw
              case rel => exact ⟨k + 1, fc, some ⟨gf, 0, none⟩, F.set u true, since, rfl, by go_num, by omega, by rw [List.length_set]; omega, HH2, Lib.hid (by rw [List.length_set]; exact (Below.heap_setCell _ _ _ _ (by dsimp only; omega)).trans HGS1.out), HO2, Lib.hid (HB1.out.setCell (by dsimp only; omega) _)⟩
              case measure => simp [intOf]; omega
            | false =>
              have HF := Lib.hid (HNO.out (by rw [HOK.out, HRI.out, Bool.true_and]; simpa using HM.out.symm))
              go_wp2_with fail
              dsimp only [Exit.noGoto]
              go_ret
              exact ⟨by rw [HF.out]; rfl, HB1.out⟩
          | false =>
            obtain ⟨m, hm⟩ : ∃ m, m = mayStartP F since n g t := ⟨_, rfl⟩
            have HM := Lib.hid hm
            have HX1 := Lib.hid (HMS.out m hm)
            clear hm HMF HMS
            go_wp2_with fail
            (with_reducible refine (HX1.out _ (below_drewN (Below.refl _ _) _)).mono ?_)
            rintro e w1 ⟨rfl, hb⟩
            have hb1 : Below W.heap.size W w1 := (below_drewN (Below.refl _ _) _).trans hb
            have hgx := (hb1.block _ hxltW).trans HGX.out
            have hgs := (hb1.block _ hsltW).trans HGS.out
            have HO1 := Lib.hid (HOW.out.below hb1 (Nat.le_refl _))
            have HB1 := Lib.hid (HBW.out.trans (hb1.mono hszW))
            have hsz1 := HB1.out.size
            have hslt1 := lt_of_block hgs
            have hxlt1 := lt_of_block hgx
            clear c0 c1 c2 q0 q1 q2 d0 d1 d2 d3 hb hb1 HX1
            obtain ⟨⟨c0, c1, c2⟩, q0, q1, q2⟩ := box_3 hgx
            obtain ⟨⟨d0, d1⟩, d2, d3⟩ := box_2 hgs
            have HGX1 := Lib.hid hgx
            have HGS1 := Lib.hid hgs
            have hne := HO1.out.ne hgs (by decide)
            have hnx := HO1.out.ne hgx (by decide)
            clear hgx hgs
            cases m with
            | true =>
              have HH2 := Lib.hid (HH.out.start HRI.out HM.out.symm)
              rw [← HST.out] at HH2
              have hlen : (F ++ [false]).length = F.length + 1 := by simp
              have hbZ := below1 w1 (.cells #[.bool false] 4)
              have hgxZ := (hbZ.block _ hxlt1).trans HGX1.out
              have hgsZ := (hbZ.block _ hslt1).trans HGS1.out
              obtain ⟨⟨x0, x1, x2⟩, x3, x4, x5⟩ := box_3 hgxZ
              obtain ⟨⟨y0, y1⟩, y2, y3⟩ := box_2 hgsZ
              have HOZ := Lib.hid (HO1.out.below hbZ (Nat.le_refl _)).draw
              have HK := Lib.hid (rowC_draw <| rowC_at (K := BK) w1 4 [false] #[.bool false] w1.heap.size 1 rfl rfl rfl (by simp))
              have HZ := Lib.hid (HB1.out.trans (hbZ.mono hsz1))
              have HGXZ := Lib.hid hgxZ
              have HGSZ := Lib.hid hgsZ
              clear hbZ hgxZ hgsZ
              go_wp2_with fail
              go_region_law (refine BK.step_append_owned rfl _ _ rfl (w.heap.size + 1) (.slice fa F.length fc) rfl F HOZ.out (some ⟨w1.heap.size, 0, none⟩) 1 1 rfl [false] rfl HK.out (by simp; omega) (by simp; omega) (F ++ [false]) rfl ?_; intro a3 c3 w3 hO3 hG3; have HO3 := Lib.hid hO3; have hg1 := (hG3.block w.heap.size (by simp; omega) (fun e => hne e.symm)).trans HGSZ.out; have hg2 := (hG3.block wr.heap.size (by simp; omega) (fun e => hnx e.symm)).trans HGXZ.out; have HG1 := Lib.hid hg1; obtain ⟨⟨z0, z1⟩, z2, z3⟩ := box_2 hg1; obtain ⟨⟨v0, v1, v2⟩, v3, v4, v5⟩ := box_3 hg2; have HB3 := Lib.hid (HZ.out.drew.grown hG3 (by simp; omega) (fun j hj => by have := (HOZ.out.lt j hj).1; omega)); have hs3 := lt_of_block hg1; clear hO3 hG3 hg1 hg2)
              all_goals
                go_wp2_with fail
                go_roundw
                case rel => exact ⟨k + 1, c3, a3, F ++ [false], t, rfl, by go_num, by omega, by simp; omega, HH2, Lib.hid (by rw [hlen]; exact set_at (set_at HG1.out 0 _) 1 _), Lib.hid ((HO3.out.set (by simp) _).set (by simp) _), Lib.hid ((HB3.out.setCell (by simp) _).setCell (by simp) _)⟩
                case measure => simp [intOf]; omega
            | false =>
              have HF := Lib.hid (HNO.out (by rw [HOK.out, HRI.out, Bool.true_and]; simpa using HM.out.symm))
              go_wp2_with fail
              dsimp only [Exit.noGoto]
              go_ret
              exact ⟨by rw [HF.out]; rfl, HB1.out⟩
    · obtain rfl : k = l.length := by omega
      have HE := Lib.hid (show r = true by have h := HH.out.keeps; rw [List.take_length] at h; rw [HRr.out]; exact h)
      go_wp2_with fail
      dsimp only [Exit.noGoto]
      go_ret
      exact ⟨by rw [HE.out]; rfl, HB.out⟩
end Go.Proofs.Ytpncgcaepdkcnaa
