/- CacheFresh walked. -/
import Derived.Test.YtaealoodchkeaaaLawB
set_option linter.unusedSimpArgs false
set_option linter.unusedVariables false
namespace Go.Proofs.Ytaealoodchkeaaa
open R3 Go.RowKit Go.Proofs.Ytaealoodchkeaaa.Kind

def lastK (l : List Kn) : Int := l.foldl (fun m y => max m (P.clamp y.until_)) 0
theorem lastk_take {l : List Kn} {k : Nat} {y : Kn} (hy : l[k]? = some y) : lastK (l.take (k + 1)) = max (lastK (l.take k)) (P.clamp y.until_) := by
  have : l.take (k + 1) = l.take k ++ [y] := by rw [List.take_add_one, hy]; rfl
  unfold lastK
  rw [this, List.foldl_append]
  rfl
theorem last_ge (m : Int) : ∀ l : List Kn, m ≤ l.foldl (fun m y => max m (P.clamp y.until_)) m := by
  intro l
  induction l generalizing m with
  | nil => simp
  | cons y t ih => exact Int.le_trans (Int.le_max_left _ _) (ih _)
theorem last_le (m : Int) (hm : m ≤ 1073741824) : ∀ l : List Kn, l.foldl (fun m y => max m (P.clamp y.until_)) m ≤ 1073741824 := by
  intro l
  induction l generalizing m with
  | nil => simpa using hm
  | cons y t ih => exact ih _ (by have := P.clamp_le y.until_; dsimp only; omega)
theorem last_all (m : Int) : ∀ (l : List Kn), ∀ y ∈ l, P.clamp y.until_ ≤ l.foldl (fun m y => max m (P.clamp y.until_)) m := by
  intro l
  induction l generalizing m with
  | nil => intro y hy; cases hy
  | cons z t ih =>
    intro y hy
    rcases List.mem_cons.1 hy with h | h
    · subst h; exact Int.le_trans (Int.le_max_right _ _) (last_ge _ t)
    · exact ih _ y h
theorem last_none (l : List Kn) : freshK l (lastK l) = [] := fresh_none (fun y hy => by
  have h1 : 0 ≤ lastK l := last_ge 0 l
  have h2 : lastK l ≤ 1073741824 := last_le 0 (by omega) l
  rw [P.clamp_id _ h1 h2]
  exact last_all 0 l y hy)
set_option maxHeartbeats 40000000 in
set_option maxRecDepth 1000000 in
theorem cachefresh_walk (HEn : EntrySpec) (HGt : GetSpec) (HPt : PutSpec) (HFr : FreshSpec) (HUn : UntilSpec) (HMy : MaySpec) (HWk : WakesSpec) (l : List Kn) (now later : Int) (a : Option Addr) (c : Nat) (w : World) (hFl : ∀ y ∈ l, FitS y) (hA : KK.RowC w a c l) :
    Calls Try.prog 5 #[.slice a l.length c, .int .i64 now, .int .i64 later] w fun e w' => e = .returned (.bool true) ∧ Below w.heap.size w w' := by
  have HEn := Lib.hid (fun x s row e now y w h => HEn x s row e now y w h)
  have HGt := Lib.hid (fun l s n a c x r w h h1 h2 h3 => HGt l s n a c x r w h h1 h2 h3)
  have HPt := Lib.hid (fun l more L a b c d w h h1 h2 h3 h4 => HPt l more L a b c d w h h1 h2 h3 h4)
  have HFr := Lib.hid (fun l L n a c w h h1 h2 => HFr l L n a c w h h1 h2)
  have HUn := Lib.hid (fun l a c i t w h h1 h2 h3 => HUn l a c i t w h h1 h2 h3)
  have HMy := Lib.hid (fun l a c r w h h1 h2 => HMy l a c r w h h1 h2)
  have HWk := Lib.hid (fun w => HWk w)
  have HB := Lib.hid (Below.refl w.heap.size w)
  have HFl := Lib.hid hFl
  have Hl := Lib.hid hA
  clear hFl hA
  go_enter Try.func5, Try.ntmps5
  have HX := Lib.hid (rgreat_any l a c w HFl.out Hl.out)
  go_wp2_with fail
  with_reducible refine HX.out.mono ?_
  rintro e w1 ⟨⟨r1, rfl, hf1⟩, hb⟩
  clear HX
  replace Hl := Lib.hid (Hl.out.below hb)
  replace HB := Lib.hid (HB.out.trans (hb.mono HB.out.size))
  clear hb
  have HF1 := Lib.hid hf1
  clear hf1
  cases r1 with
  | true =>
    go_wp2_with fail
    with_reducible refine (HWk.out _).mono ?_
    rintro e wf ⟨rfl, hb⟩
    have HBf := Lib.hid (HB.out.trans (hb.mono HB.out.size))
    clear hb
    go_wp2_with fail
    go_ret
    exact ⟨rfl, HBf.out⟩
  | false =>
    have HW1 := Lib.hid (HF1.out (by first | rfl | trivial))
    have hll : l.length ≤ 60 := HW1.out.1
    obtain ⟨v, hv⟩ : ∃ v, v = mayK l := ⟨_, rfl⟩
    replace hv := Lib.hid hv
    have HX := Lib.hid (rmay_any l a c w1 Hl.out)
    rw [← hv.out] at HX
    go_wp2_with fail
    with_reducible refine HX.out.mono ?_
    rintro e w31 ⟨rfl, hb⟩
    clear HX
    replace Hl := Lib.hid (Hl.out.below hb)
    replace HB := Lib.hid (HB.out.trans (hb.mono HB.out.size))
    clear hb
    cases v with
    | false =>
      go_wp2_with fail
      with_reducible refine (HWk.out _).mono ?_
      rintro e wf ⟨rfl, hb⟩
      have HBf := Lib.hid (HB.out.trans (hb.mono HB.out.size))
      clear hb
      go_wp2_with fail
      go_ret
      exact ⟨rfl, HBf.out⟩
    | true =>
      have HUp := Lib.hid ((may_iff.1 hv.out.symm).2)
      by_cases hln : later < now
      · go_wp2_with fail
        with_reducible refine (HWk.out _).mono ?_
        rintro e wf ⟨rfl, hb⟩
        have HBf := Lib.hid (HB.out.trans (hb.mono HB.out.size))
        clear hb
        go_wp2_with fail
        go_ret
        exact ⟨rfl, HBf.out⟩
      · obtain ⟨A, hA⟩ : ∃ A, A = freshK l now := ⟨_, rfl⟩
        obtain ⟨B, hB⟩ : ∃ B, B = freshK l later := ⟨_, rfl⟩
        have HBA := Lib.hid (show B = freshK A later by rw [hA, hB]; exact (fresh_later (by omega)).symm)
        have hlen : B.length ≤ A.length := by rw [hA, hB]; exact fresh_len (by omega)
        have hAl : A.length ≤ l.length := by rw [hA]; exact List.length_filter_le _ _
        replace hA := Lib.hid hA
        replace hB := Lib.hid hB
        have HX := Lib.hid (HFr.out l A now a c w31 (by omega) hA.out Hl.out)
        go_wp2_with fail
        with_reducible refine HX.out.mono ?_
        rintro e w2 ⟨a1, c1, rfl, hR, hb⟩
        clear HX
        replace Hl := Lib.hid (Hl.out.below hb)
        replace HB := Lib.hid (HB.out.trans (hb.mono HB.out.size))
        clear hb
        have Ha := Lib.hid hR
        clear hR
        have HX := Lib.hid (HFr.out l B later a c w2 (by omega) hB.out Hl.out)
        go_wp2_with fail
        with_reducible refine HX.out.mono ?_
        rintro e w3 ⟨a2, c2, rfl, hR, hb⟩
        clear HX
        replace Hl := Lib.hid (Hl.out.below hb)
        replace Ha := Lib.hid (Ha.out.below hb)
        replace HB := Lib.hid (HB.out.trans (hb.mono HB.out.size))
        clear hb
        have Hb := Lib.hid hR
        clear hR
        have HX := Lib.hid (HFr.out A B later a1 c1 w3 (by omega) HBA.out Ha.out)
        go_wp2_with fail
        with_reducible refine HX.out.mono ?_
        rintro e w4 ⟨a3, c3, rfl, hR, hb⟩
        clear HX
        replace Hl := Lib.hid (Hl.out.below hb)
        replace Ha := Lib.hid (Ha.out.below hb)
        replace Hb := Lib.hid (Hb.out.below hb)
        replace HB := Lib.hid (HB.out.trans (hb.mono HB.out.size))
        clear hb
        have Hc := Lib.hid hR
        clear hR
        have HX := Lib.hid (rsame_yes B a3 a2 c3 c2 w4 Hc.out Hb.out)
        go_wp2_with fail
        with_reducible refine HX.out.mono ?_
        rintro e w5 ⟨rfl, hb⟩
        clear HX
        replace Hl := Lib.hid (Hl.out.below hb)
        replace Ha := Lib.hid (Ha.out.below hb)
        replace Hb := Lib.hid (Hb.out.below hb)
        replace Hc := Lib.hid (Hc.out.below hb)
        replace HB := Lib.hid (HB.out.trans (hb.mono HB.out.size))
        clear hb
        clear Hc Hb
        have hgt : ¬ (A.length : Int) < (B.length : Int) := by omega
        go_wp2_with fail
        go_loopw [9, 10, 11] (fun u9 u10 u11 wr => ∃ j : Nat, u9 = .int .i64 j ∧ j ≤ A.length ∧ Hid (Below w5.heap.size w5 wr)) (fun u _ _ _ => A.length - (intOf u).toNat)
        case atStart => exact ⟨0, rfl, by omega, Lib.hid (Below.refl _ _)⟩
        case round =>
          obtain ⟨j, rfl, hj, hbr⟩ := hrel
          have hjw : IntKind.i64.wrap ((j : Int) + 1) = (j : Int) + 1 := by rw [IntKind.wrap_i64]; omega
          by_cases hlt : j < A.length
          · have hji : (j : Int) < (A.length : Int) := by omega
            obtain ⟨y, hy⟩ : ∃ y, A[j]? = some y := ⟨_, List.getElem?_eq_getElem hlt⟩
            obtain ⟨ba, oa, rfl, hba, hat⟩ := (Ha.out.below hbr.out).2.2.2 (by omega)
            have hgk : getK l y.name now = some y := fresh_got HUp.out (by rw [← hA.out]; exact List.mem_of_getElem? hy)
            have HX := Lib.hid (HGt.out l y.name now a c y true wr (by omega) (by unfold getV; rw [hgk]; rfl) (by unfold getB; rw [hgk]; rfl) (Hl.out.below hbr.out))
            simp only [Kn.v] at HX
            obtain ⟨d0, d1, d2, d3⟩ := KK.cells hat hy
            have HAT := Lib.hid hat
            have HY := Lib.hid hy
            have hbla := hba
            clear hat hy hgk
            go_wp2_with fail
            with_reducible refine HX.out.mono ?_
            rintro e w5 ⟨rfl, hb⟩
            clear HX d0 d1 d2 d3
            simp only [Kn.v]
            go_upto_region 10 with fail
            obtain ⟨w6, h6⟩ : ∃ X, X = w5.alloc (.cells #[.string y.name, .string y.row, .int .i64 y.e, .int .i64 y.until_] 29) := ⟨_, rfl⟩
            have hL := laid1 w5 (.cells #[.string y.name, .string y.row, .int .i64 y.e, .int .i64 y.until_] 29)
            have hb6 : Below wr.heap.size wr w6 := by rw [h6]; exact hb.trans ((below1 w5 _).mono hb.size)
            rw [← h6] at hL ⊢
            clear h6
            obtain ⟨gb, hgb⟩ : ∃ n, n = w5.heap.size := ⟨_, rfl⟩
            rw [← hgb] at hL ⊢
            clear hgb
            obtain ⟨⟨e0, e1, e2, e3⟩, _⟩ := box_4 hL
            obtain ⟨d0, d1, d2, d3⟩ := KK.cells (HAT.out.below hb6 hbla) HY.out
            have hnk := neq_self_Kn y
            have hgd := guard_Kn
            have HB6 := Lib.hid (hbr.out.trans (hb6.mono hbr.out.size))
            clear hb hb6 hL
            go_quiet (fail)
            go_wp2_with fail
            go_roundw
            case rel => exact ⟨j + 1, by go_num, by omega, by first | exact HB6 | exact Lib.hid (below_drewN HB6.out _)⟩
            case measure => simp [intOf]; omega
          · obtain rfl : j = A.length := by omega
            have hb := hbr.out
            clear hbr
            replace Hl := Lib.hid (Hl.out.below hb)
            replace Ha := Lib.hid (Ha.out.below hb)
            replace HB := Lib.hid (HB.out.trans (hb.mono HB.out.size))
            clear hb
            go_wp2_with fail
            go_loopw [12, 13] (fun u12 u13 wy => ∃ j : Nat, u13 = .int .i64 j ∧ u12 = .int .i64 (lastK (l.take j)) ∧ j ≤ l.length ∧ wy = wr) (fun _ u _ => l.length - (intOf u).toNat)
            case atStart => exact ⟨0, rfl, by simp [lastK], by omega, rfl⟩
            case round =>
              obtain ⟨j, rfl, rfl, hj, hww⟩ := hrel
              subst hww
              have hjw : IntKind.i64.wrap ((j : Int) + 1) = (j : Int) + 1 := by rw [IntKind.wrap_i64]; omega
              by_cases hlt : j < l.length
              · have hji : (j : Int) < (l.length : Int) := by omega
                obtain ⟨y, hy⟩ : ∃ y, l[j]? = some y := ⟨_, List.getElem?_eq_getElem hlt⟩
                obtain ⟨ba, oa, hba, hbl, hat⟩ := Hl.out.2.2.2 (by omega)
                subst hba
                obtain ⟨d0, d1, d2, d3⟩ := KK.cells hat hy
                have hlt2 := lastk_take hy
                obtain ⟨m0, hm0⟩ : ∃ m, m = lastK (l.take j) := ⟨_, rfl⟩
                rw [← hm0] at hlt2 ⊢
                have HM := Lib.hid hlt2
                clear hlt2 hm0 hat hy
                have HX := Lib.hid (rclamp_any y.until_ wr)
                go_wp2_with fail
                with_reducible refine HX.out.mono ?_
                rintro e wz ⟨rfl, hz⟩
                subst hz
                clear HX
                go_wp2_with fail
                all_goals
                  go_roundw
                  case rel => first | exact ⟨j + 1, by go_num, by rw [HM.out]; first | rfl | (congr 1; omega), by omega, rfl⟩ | exact ⟨j + 1, by omega, by rw [HM.out]; omega, by omega⟩
                  case measure => simp [intOf]; omega
              · obtain rfl : j = l.length := by omega
                rw [List.take_length]
                obtain ⟨m, hm⟩ : ∃ m, m = lastK l := ⟨_, rfl⟩
                rw [← hm]
                have HLN := Lib.hid (show ([] : List Kn) = freshK l m by rw [hm]; exact (last_none l).symm)
                clear hm
                obtain ⟨i, hi⟩ : ∃ i, i = (untilK l).1 := ⟨_, rfl⟩
                obtain ⟨u, hu⟩ : ∃ u, u = (untilK l).2 := ⟨_, rfl⟩
                replace hi := Lib.hid hi
                replace hu := Lib.hid hu
                have HX := Lib.hid (HUn.out l a c i u wr (by omega) hi.out hu.out Hl.out)
                go_wp2_with fail
                with_reducible refine HX.out.mono ?_
                rintro e w6 ⟨rfl, hb⟩
                clear HX
                replace Hl := Lib.hid (Hl.out.below hb)
                replace Ha := Lib.hid (Ha.out.below hb)
                replace HB := Lib.hid (HB.out.trans (hb.mono HB.out.size))
                clear hb
                by_cases hl0 : l.length = 0
                · obtain rfl : l = [] := List.eq_nil_of_length_eq_zero hl0
                  have hi1 : i = -1 := hi.out
                  have hA0 : A.length = 0 := by have := hAl; simp at this; simp [this]
                  have hib : (i == -1) = true := by simp [hi1]
                  have hAb : ((A.length : Int) == 0) = true := by simp [hA0]
                  have hll0 : (((([] : List Kn).length : Nat) : Int) == 0) = true := by simp
                  clear hi1 hA0
                  go_wp2_with fail
                  with_reducible refine (HWk.out _).mono ?_
                  rintro e wf ⟨rfl, hb⟩
                  have HBf := Lib.hid (HB.out.trans (hb.mono HB.out.size))
                  clear hb
                  go_wp2_with fail
                  go_ret
                  exact ⟨rfl, HBf.out⟩
                · have hlne : l ≠ [] := fun e => hl0 (by rw [e]; rfl)
                  obtain ⟨_, _, _, _, hi0, hi1⟩ := until_some hlne
                  rw [← hi.out] at hi0 hi1
                  have hug := until_ge l
                  rw [← hu.out] at hug
                  have hfw := until_fewer hlne
                  rw [← hu.out] at hfw
                  have huw : IntKind.i64.wrap (u - 1) = u - 1 := by rw [IntKind.wrap_i64]; omega
                  have hllb : ((l.length : Int) == 0) = false := by simp; omega
                  have hia : (0 : Int) ≤ i := hi0
                  have hib : i < (l.length : Int) := hi1
                  clear hi0 hi1
                  obtain ⟨T, hT⟩ : ∃ T, T = freshK l u := ⟨_, rfl⟩
                  rw [← hT] at hfw
                  replace hT := Lib.hid hT
                  have hfi : (T.length : Int) < (l.length : Int) := by omega
                  have HX := Lib.hid (HFr.out l [] m a c w6 (by omega) HLN.out Hl.out)
                  simp only [List.length_nil] at HX
                  go_wp2_with fail
                  with_reducible refine HX.out.mono ?_
                  rintro e w7 ⟨a4, c4, rfl, hR, hb⟩
                  clear HX
                  replace Hl := Lib.hid (Hl.out.below hb)
                  replace Ha := Lib.hid (Ha.out.below hb)
                  replace HB := Lib.hid (HB.out.trans (hb.mono HB.out.size))
                  clear hb
                  clear hR
                  by_cases hu0 : u = 0
                  · have hub : (u == 0) = true := by simp [hu0]
                    clear hu0
                    have HX := Lib.hid (HFr.out l T u a c w7 (by omega) hT.out Hl.out)
                    go_wp2_with fail
                    with_reducible refine HX.out.mono ?_
                    rintro e w8 ⟨a6, c6, rfl, hR, hb⟩
                    clear HX
                    replace Hl := Lib.hid (Hl.out.below hb)
                    replace Ha := Lib.hid (Ha.out.below hb)
                    replace HB := Lib.hid (HB.out.trans (hb.mono HB.out.size))
                    clear hb
                    clear hR
                    go_wp2_with fail
                    with_reducible refine (HWk.out _).mono ?_
                    rintro e wf ⟨rfl, hb⟩
                    have HBf := Lib.hid (HB.out.trans (hb.mono HB.out.size))
                    clear hb
                    go_wp2_with fail
                    go_ret
                    exact ⟨rfl, HBf.out⟩
                  · have hub : (u == 0) = false := by simp [hu0]
                    have HUA := Lib.hid (show l = freshK l (u - 1) by have h := until_ahead hlne (by rw [← hu.out]; exact hu0); rw [← hu.out] at h; exact h.symm)
                    clear hu0
                    have HX := Lib.hid (HFr.out l l (u - 1) a c w7 (by omega) HUA.out Hl.out)
                    go_wp2_with fail
                    with_reducible refine HX.out.mono ?_
                    rintro e w8 ⟨a5, c5, rfl, hR, hb⟩
                    clear HX
                    replace Hl := Lib.hid (Hl.out.below hb)
                    replace Ha := Lib.hid (Ha.out.below hb)
                    replace HB := Lib.hid (HB.out.trans (hb.mono HB.out.size))
                    clear hb
                    clear hR
                    have hllq : ((l.length : Int) == (l.length : Int)) = true := by simp
                    have HX := Lib.hid (HFr.out l T u a c w8 (by omega) hT.out Hl.out)
                    go_wp2_with fail
                    with_reducible refine HX.out.mono ?_
                    rintro e w9 ⟨a6, c6, rfl, hR, hb⟩
                    clear HX
                    replace Hl := Lib.hid (Hl.out.below hb)
                    replace Ha := Lib.hid (Ha.out.below hb)
                    replace HB := Lib.hid (HB.out.trans (hb.mono HB.out.size))
                    clear hb
                    clear hR
                    go_wp2_with fail
                    with_reducible refine (HWk.out _).mono ?_
                    rintro e wf ⟨rfl, hb⟩
                    have HBf := Lib.hid (HB.out.trans (hb.mono HB.out.size))
                    clear hb
                    go_wp2_with fail
                    go_ret
                    exact ⟨rfl, HBf.out⟩
end Go.Proofs.Ytaealoodchkeaaa
