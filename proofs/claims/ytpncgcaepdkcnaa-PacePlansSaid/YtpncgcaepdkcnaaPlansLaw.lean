/- PacePlans walked. -/
import Derived.Test.YtpncgcaepdkcnaaLawB
set_option linter.unusedSimpArgs false
set_option linter.unusedVariables false
namespace Go.Proofs.Ytpncgcaepdkcnaa
open R3 Go.RowKit Go.Proofs.Ytpncgcaepdkcnaa.Kind

set_option maxHeartbeats 40000000 in
set_option maxRecDepth 1000000 in
theorem paceplans_walk (HMa : MaySpec) (HWh : WhenSpec) (HPl : PlanSpec) (HKe : KeepsSpec) (HSt : StartsSpec) (HWk : WakesSpec) (n t g h : Int) (w : World) :
    Calls Try.prog 3 #[.int .i64 n, .int .i64 t, .int .i64 g, .int .i64 h] w fun e w' => e = .returned (.bool true) ∧ Below w.heap.size w w' := by
  have HMa := Lib.hid (fun s n f since g now r w h => HMa s n f since g now r w h)
  have HWh := Lib.hid (fun s n since g t r w h h1 => HWh s n since g t r w h h1)
  have HPl := Lib.hid (fun n t g L w h => HPl n t g L w h)
  have HKe := Lib.hid (fun g l s c r w h h1 h2 => HKe g l s c r w h h1 h2)
  have HSt := Lib.hid (fun l s c L w h h1 h2 => HSt l s c L w h h1 h2)
  have HWk := Lib.hid (fun w => HWk w)
  have HB := Lib.hid (Below.refl w.heap.size w)
  obtain ⟨p, hp⟩ : ∃ p, p = planL n t g := ⟨_, rfl⟩
  have hpl : (p.length : Int) = min (max n 0) 8 := by rw [hp, plan_len, planN_int]
  have hp8 : p.length ≤ 8 := by have := planN_le n; rw [hp, plan_len]; exact this
  have HKk := Lib.hid (fun (h : Int) (hh : h ≤ g) => (by have := plan_keeps n t g h hh p.length (by rw [hp]; exact Nat.le_refl _); rw [← hp, List.take_length] at this; exact this.symm : true = keepsP h (asPc p)))
  have HSs := Lib.hid (starts_asPc p).symm
  have HLl := Lib.hid (asPc_len p)
  have HF := Lib.hid (fun (x : Int) (h : p[0]? = some x) => (plan_first (by rw [← hp]; exact h) : x = P.clamp t))
  have HNx := Lib.hid (fun (i : Nat) (x y : Int) (h1 : p[i]? = some x) (h2 : p[i + 1]? = some y) => (by rw [hp] at h1 h2; have hin := plan_in n t g x (List.mem_of_getElem? h1); exact ⟨planF_at g _ _ i x y h1 h2, hin.1, hin.2⟩ : y = P.plus x g ∧ 0 ≤ x ∧ x ≤ 1073741824))
  replace hp := Lib.hid hp
  go_enter Try.func3, Try.ntmps3
  have HX := Lib.hid (HPl.out n t g p w hp.out)
  go_wp2_with fail
  with_reducible refine HX.out.mono ?_
  rintro e w1 ⟨a1, c1, rfl, hR, hb⟩
  clear HX
  replace HB := Lib.hid (HB.out.trans (hb.mono HB.out.size))
  clear hb
  have Hp := Lib.hid hR
  clear hR
  by_cases hn0 : n < 0
  · have hpz : p.length = 0 := by omega
    have hpi : ((p.length : Int) != 0) = false := by rw [hpz]; rfl
    clear hpz
    have hmx : (p.length : Int) ≤ 8 := by omega
    clear hpl
    go_wp2_with fail
    go_loopw [10, 11] (fun o i wr => ∃ (k c2 : Nat) (a2 : Option Addr), o = .slice a2 k c2 ∧ i = .int .i64 k ∧ k ≤ p.length ∧ Hid (PK.Own wr w1.heap.size (.slice a2 k c2) (asPc (p.take k))) ∧ Hid (Below w1.heap.size w1 wr)) (fun _ i _ => p.length - (intOf i).toNat)
    case atStart => exact ⟨0, 0, none, rfl, rfl, by omega, Lib.hid (own_nil _ _), Lib.hid (Below.refl _ _)⟩
    case round =>
      obtain ⟨k, c2, a2, rfl, rfl, hk, hO, hB⟩ := hrel
      have HO := Lib.hid hO.out
      have HBr := Lib.hid hB.out
      clear hO hB
      by_cases hlt : k < p.length
      · obtain ⟨b, o, rfl, hbl, hat⟩ := Hp.out.2.2.2 (by omega)
        obtain ⟨x, hx⟩ : ∃ x, p[k]? = some x := ⟨_, List.getElem?_eq_getElem hlt⟩
        have HCx := Lib.hid (fun (W : World) (hW : Below w1.heap.size w1 W) (i : Nat) (v : Int) (hv : p[i]? = some v) => IK.one (hat.below hW hbl) hv)
        have hst : asPc (p.take (k + 1)) = asPc (p.take k) ++ [⟨false, k, x⟩] := by rw [List.take_add_one, hx]; show asPc (p.take k ++ [x]) = _; rw [asPc_snoc, List.length_take, show min k p.length = k by omega]
        have hsl : (asPc (p.take (k + 1))).length = k + 1 := by rw [asPc_len, List.length_take]; omega
        have hsl0 : (asPc (p.take k)).length = k := by rw [asPc_len, List.length_take]; omega
        have HSt2 := Lib.hid hst
        have HX := Lib.hid hx
        have c0 := HCx.out wr HBr.out k x hx
        clear hst hx hat
        obtain ⟨M2, hM2⟩ : ∃ M2, M2 = asPc (p.take (k + 1)) := ⟨_, rfl⟩
        rw [← hM2] at HSt2 hsl
        have HM2 := Lib.hid hM2
        clear hM2
        go_upto_region 9 with (at_builtin; refine PK.wpList_append_owned rfl _ _ rfl w1.heap.size (.slice a2 k c2) rfl (asPc (p.take k)) (HO.out.below (below1 wr _) (Nat.le_refl _)) (some ⟨wr.heap.size, 0, none⟩) 1 1 rfl [(⟨false, (k : Int), x⟩ : Pc)] rfl (rowC_at (K := PK) wr 26 [(⟨false, (k : Int), x⟩ : Pc)] _ _ 1 rfl rfl rfl (by simp)) (by rw [hsl0]; simp; omega) (by have := HBr.out.size; simp; omega) M2 HSt2.out ?_; intro a3 c3 w2 hO2 hG2; have HO2 := Lib.hid hO2; have HB2 := Lib.hid ((HBr.out.trans ((below1 wr (.cells #[.bool false, .int .i64 (k : Int), .int .i64 x] 26)).mono HBr.out.size)).grown hG2 (by have := HBr.out.size; simp; omega) (fun j hj => (HO.out.lt j hj).1)); clear hO2 hG2)
        clear c0
        have c0 := HCx.out w2 HB2.out k x HX.out
        by_cases hk0 : k = 0
        · have hz : ((k : Int) == 0) = true := by rw [hk0]; rfl
          have c00 : w2.cell? ⟨b, o, none⟩ = some (.int .i64 x) := by rw [hk0] at c0; exact c0
          have hcl : (x != P.clamp t) = false := by rw [HF.out x (by rw [← hk0]; exact HX.out)]; simp
          have hpp : (0 : Int) < (p.length : Int) := by omega
          clear c0 hk0
          go_upto_region 10 with fail
          go_quiet (first | (go_at_call 8; exact Calls.quiet_of_same (rclamp_any _ _)))
          go_wp2_with fail
          go_roundw
          case rel => exact ⟨k + 1, c3, a3, rfl, by go_num, by omega, Lib.hid (by rw [← HM2.out, ← hsl]; exact HO2.out.below (below_drewN (Below.refl _ _) _) (Nat.le_refl _)), Lib.hid (below_drewN HB2.out _)⟩
          case measure => simp [intOf]; omega
        have hz : ((k : Int) == 0) = false := by rw [beq_eq_false_iff_ne]; omega
        obtain ⟨K, hK⟩ : ∃ K : Nat, k = K + 1 := ⟨k - 1, by omega⟩
        obtain ⟨v, hv⟩ : ∃ v, p[K]? = some v := ⟨_, List.getElem?_eq_getElem (by omega)⟩
        have d0 := HCx.out w2 HB2.out K v hv
        have HV := Lib.hid hv
        obtain ⟨hn1, hn2, hn3⟩ := HNx.out K v x hv (by rw [← hK]; exact HX.out)
        have hw : IntKind.i64.wrap ((k : Int) - 1) = (K : Int) := by rw [IntKind.wrap_i64]; omega
        have hKl : (K : Int) < (p.length : Int) := by omega
        have hK0 : (0 : Int) ≤ (K : Int) := by omega
        have hkl : (k : Int) < (p.length : Int) := by omega
        have q1 : x = whenT (k : Int) (p.length : Int) v g := by unfold whenT; rw [if_pos (by omega), P.later_one, P.clamp_id v hn2 hn3]; exact hn1
        have q2 : true = whenB (k : Int) (p.length : Int) := by unfold whenB; rw [decide_eq_true (by omega), decide_eq_true (by omega)]; rfl
        have q3 : true = mayP (k : Int) (p.length : Int) false v g x := by unfold mayP; rw [decide_eq_true (by omega), hn1, plan_old hn2 hn3 (Int.le_refl g)]; simp
        replace q1 := Lib.hid q1
        replace q2 := Lib.hid q2
        replace q3 := Lib.hid q3
        have hxx : (x != x) = false := by simp
        clear hn1 hn2 hn3 hv hK hk0
        have HW1 := Lib.hid (HWh.out (k : Int) (p.length : Int) v g x true w2 q1.out q2.out)
        go_wp2_with fail
        (with_reducible refine HW1.out.mono ?_)
        rintro e w3 ⟨rfl, hb3⟩
        have HB3 := Lib.hid (HB2.out.trans (hb3.mono HB2.out.size))
        have HO3 := Lib.hid (HO2.out.below hb3 (Nat.le_refl _))
        clear hb3 c0 d0 HW1
        have c0 := HCx.out w3 HB3.out k x HX.out
        have d0 := HCx.out w3 HB3.out K v HV.out
        have HW2 := Lib.hid (HMa.out (k : Int) (p.length : Int) false v g x true w3 q3.out)
        go_wp2_with fail
        (with_reducible refine HW2.out.mono ?_)
        rintro e w4 ⟨rfl, hb4⟩
        have HB4 := Lib.hid (HB3.out.trans (hb4.mono HB3.out.size))
        have HO4 := Lib.hid (HO3.out.below hb4 (Nat.le_refl _))
        clear hb4 c0 d0 HW2
        go_wp2_with fail
        go_roundw
        case rel => exact ⟨k + 1, c3, a3, rfl, by go_num, by omega, Lib.hid (by rw [← HM2.out, ← hsl]; exact HO4.out), HB4⟩
        case measure => simp [intOf]; omega
      · obtain rfl : k = p.length := by omega
        have HRp := Lib.hid (by have := HO.out.row; rw [List.take_length] at this; exact this : PK.RowC wr a2 c2 (asPc p))
        have hal : (asPc p).length = p.length := HLl.out
        have hal2 : (asPc p).length ≤ 500 := by omega
        have hb := HBr.out
        clear HO HBr hlt
        replace Hp := Lib.hid (Hp.out.below hb)
        replace HB := Lib.hid (HB.out.trans (hb.mono HB.out.size))
        clear hb
        have HK1 := Lib.hid (HKe.out g (asPc p) a2 c2 true wr (HKk.out g (Int.le_refl g)) hal2 HRp.out)
        rw [hal] at HK1
        clear hal
        go_wp2_with fail
        (with_reducible refine HK1.out.mono ?_)
        rintro e w5 ⟨rfl, hb⟩
        clear HK1
        replace Hp := Lib.hid (Hp.out.below hb)
        replace HRp := Lib.hid (HRp.out.below hb)
        replace HB := Lib.hid (HB.out.trans (hb.mono HB.out.size))
        clear hb
        by_cases hgh : g < h
        · have hgd : decide (g < h) = true := decide_eq_true hgh
          have hal : (asPc p).length = p.length := HLl.out
          have HS1 := Lib.hid (HSt.out (asPc p) a2 c2 p w5 HSs.out hal2 HRp.out)
          rw [hal] at HS1
          clear hal
          go_wp2_with fail
          (with_reducible refine HS1.out.mono ?_)
          rintro e w7 ⟨a7, c7, rfl, hR, hb⟩
          clear HS1
          replace Hp := Lib.hid (Hp.out.below hb)
          replace HRp := Lib.hid (HRp.out.below hb)
          replace HB := Lib.hid (HB.out.trans (hb.mono HB.out.size))
          clear hb
          have Hq := Lib.hid hR
          clear hR
          have HX := Lib.hid (rsame_any p p a7 a1 c7 c1 true w7 (by simp) Hq.out Hp.out)
          go_wp2_with fail
          with_reducible refine HX.out.mono ?_
          rintro e w2 ⟨rfl, hb⟩
          clear HX
          replace Hp := Lib.hid (Hp.out.below hb)
          replace HRp := Lib.hid (HRp.out.below hb)
          replace Hq := Lib.hid (Hq.out.below hb)
          replace HB := Lib.hid (HB.out.trans (hb.mono HB.out.size))
          clear hb
          go_wp2_with fail
          with_reducible refine (HWk.out _).mono ?_
          rintro e wf ⟨rfl, hb⟩
          have HBf := Lib.hid (HB.out.trans (hb.mono HB.out.size))
          clear hb
          go_wp2_with fail
          go_ret
          exact ⟨rfl, HBf.out⟩
        · have hgd : decide (g < h) = false := decide_eq_false hgh
          have hal : (asPc p).length = p.length := HLl.out
          have HK1 := Lib.hid (HKe.out h (asPc p) a2 c2 true w5 (HKk.out h (by omega)) hal2 HRp.out)
          rw [hal] at HK1
          clear hal
          go_wp2_with fail
          (with_reducible refine HK1.out.mono ?_)
          rintro e w6 ⟨rfl, hb⟩
          clear HK1
          replace Hp := Lib.hid (Hp.out.below hb)
          replace HRp := Lib.hid (HRp.out.below hb)
          replace HB := Lib.hid (HB.out.trans (hb.mono HB.out.size))
          clear hb
          have hal : (asPc p).length = p.length := HLl.out
          have HS1 := Lib.hid (HSt.out (asPc p) a2 c2 p w6 HSs.out hal2 HRp.out)
          rw [hal] at HS1
          clear hal
          go_wp2_with fail
          (with_reducible refine HS1.out.mono ?_)
          rintro e w7 ⟨a7, c7, rfl, hR, hb⟩
          clear HS1
          replace Hp := Lib.hid (Hp.out.below hb)
          replace HRp := Lib.hid (HRp.out.below hb)
          replace HB := Lib.hid (HB.out.trans (hb.mono HB.out.size))
          clear hb
          have Hq := Lib.hid hR
          clear hR
          have HX := Lib.hid (rsame_any p p a7 a1 c7 c1 true w7 (by simp) Hq.out Hp.out)
          go_wp2_with fail
          with_reducible refine HX.out.mono ?_
          rintro e w2 ⟨rfl, hb⟩
          clear HX
          replace Hp := Lib.hid (Hp.out.below hb)
          replace HRp := Lib.hid (HRp.out.below hb)
          replace Hq := Lib.hid (Hq.out.below hb)
          replace HB := Lib.hid (HB.out.trans (hb.mono HB.out.size))
          clear hb
          go_wp2_with fail
          with_reducible refine (HWk.out _).mono ?_
          rintro e wf ⟨rfl, hb⟩
          have HBf := Lib.hid (HB.out.trans (hb.mono HB.out.size))
          clear hb
          go_wp2_with fail
          go_ret
          exact ⟨rfl, HBf.out⟩
  · have hmn : (if (8 : Int) < n then 8 else n) = (p.length : Int) := by split <;> omega
    have hpi : ((p.length : Int) != (p.length : Int)) = false := by simp
    have hmn2 : min n 8 = (p.length : Int) := by omega
    have hmx : (p.length : Int) ≤ 8 := by omega
    clear hpl
    go_wp2_with fail
    go_loopw [10, 11] (fun o i wr => ∃ (k c2 : Nat) (a2 : Option Addr), o = .slice a2 k c2 ∧ i = .int .i64 k ∧ k ≤ p.length ∧ Hid (PK.Own wr w1.heap.size (.slice a2 k c2) (asPc (p.take k))) ∧ Hid (Below w1.heap.size w1 wr)) (fun _ i _ => p.length - (intOf i).toNat)
    case atStart => exact ⟨0, 0, none, rfl, rfl, by omega, Lib.hid (own_nil _ _), Lib.hid (Below.refl _ _)⟩
    case round =>
      obtain ⟨k, c2, a2, rfl, rfl, hk, hO, hB⟩ := hrel
      have HO := Lib.hid hO.out
      have HBr := Lib.hid hB.out
      clear hO hB
      by_cases hlt : k < p.length
      · obtain ⟨b, o, rfl, hbl, hat⟩ := Hp.out.2.2.2 (by omega)
        obtain ⟨x, hx⟩ : ∃ x, p[k]? = some x := ⟨_, List.getElem?_eq_getElem hlt⟩
        have HCx := Lib.hid (fun (W : World) (hW : Below w1.heap.size w1 W) (i : Nat) (v : Int) (hv : p[i]? = some v) => IK.one (hat.below hW hbl) hv)
        have hst : asPc (p.take (k + 1)) = asPc (p.take k) ++ [⟨false, k, x⟩] := by rw [List.take_add_one, hx]; show asPc (p.take k ++ [x]) = _; rw [asPc_snoc, List.length_take, show min k p.length = k by omega]
        have hsl : (asPc (p.take (k + 1))).length = k + 1 := by rw [asPc_len, List.length_take]; omega
        have hsl0 : (asPc (p.take k)).length = k := by rw [asPc_len, List.length_take]; omega
        have HSt2 := Lib.hid hst
        have HX := Lib.hid hx
        have c0 := HCx.out wr HBr.out k x hx
        clear hst hx hat
        obtain ⟨M2, hM2⟩ : ∃ M2, M2 = asPc (p.take (k + 1)) := ⟨_, rfl⟩
        rw [← hM2] at HSt2 hsl
        have HM2 := Lib.hid hM2
        clear hM2
        go_upto_region 9 with (at_builtin; refine PK.wpList_append_owned rfl _ _ rfl w1.heap.size (.slice a2 k c2) rfl (asPc (p.take k)) (HO.out.below (below1 wr _) (Nat.le_refl _)) (some ⟨wr.heap.size, 0, none⟩) 1 1 rfl [(⟨false, (k : Int), x⟩ : Pc)] rfl (rowC_at (K := PK) wr 26 [(⟨false, (k : Int), x⟩ : Pc)] _ _ 1 rfl rfl rfl (by simp)) (by rw [hsl0]; simp; omega) (by have := HBr.out.size; simp; omega) M2 HSt2.out ?_; intro a3 c3 w2 hO2 hG2; have HO2 := Lib.hid hO2; have HB2 := Lib.hid ((HBr.out.trans ((below1 wr (.cells #[.bool false, .int .i64 (k : Int), .int .i64 x] 26)).mono HBr.out.size)).grown hG2 (by have := HBr.out.size; simp; omega) (fun j hj => (HO.out.lt j hj).1)); clear hO2 hG2)
        clear c0
        have c0 := HCx.out w2 HB2.out k x HX.out
        by_cases hk0 : k = 0
        · have hz : ((k : Int) == 0) = true := by rw [hk0]; rfl
          have c00 : w2.cell? ⟨b, o, none⟩ = some (.int .i64 x) := by rw [hk0] at c0; exact c0
          have hcl : (x != P.clamp t) = false := by rw [HF.out x (by rw [← hk0]; exact HX.out)]; simp
          have hpp : (0 : Int) < (p.length : Int) := by omega
          clear c0 hk0
          go_upto_region 10 with fail
          go_quiet (first | (go_at_call 8; exact Calls.quiet_of_same (rclamp_any _ _)))
          go_wp2_with fail
          go_roundw
          case rel => exact ⟨k + 1, c3, a3, rfl, by go_num, by omega, Lib.hid (by rw [← HM2.out, ← hsl]; exact HO2.out.below (below_drewN (Below.refl _ _) _) (Nat.le_refl _)), Lib.hid (below_drewN HB2.out _)⟩
          case measure => simp [intOf]; omega
        have hz : ((k : Int) == 0) = false := by rw [beq_eq_false_iff_ne]; omega
        obtain ⟨K, hK⟩ : ∃ K : Nat, k = K + 1 := ⟨k - 1, by omega⟩
        obtain ⟨v, hv⟩ : ∃ v, p[K]? = some v := ⟨_, List.getElem?_eq_getElem (by omega)⟩
        have d0 := HCx.out w2 HB2.out K v hv
        have HV := Lib.hid hv
        obtain ⟨hn1, hn2, hn3⟩ := HNx.out K v x hv (by rw [← hK]; exact HX.out)
        have hw : IntKind.i64.wrap ((k : Int) - 1) = (K : Int) := by rw [IntKind.wrap_i64]; omega
        have hKl : (K : Int) < (p.length : Int) := by omega
        have hK0 : (0 : Int) ≤ (K : Int) := by omega
        have hkl : (k : Int) < (p.length : Int) := by omega
        have q1 : x = whenT (k : Int) (p.length : Int) v g := by unfold whenT; rw [if_pos (by omega), P.later_one, P.clamp_id v hn2 hn3]; exact hn1
        have q2 : true = whenB (k : Int) (p.length : Int) := by unfold whenB; rw [decide_eq_true (by omega), decide_eq_true (by omega)]; rfl
        have q3 : true = mayP (k : Int) (p.length : Int) false v g x := by unfold mayP; rw [decide_eq_true (by omega), hn1, plan_old hn2 hn3 (Int.le_refl g)]; simp
        replace q1 := Lib.hid q1
        replace q2 := Lib.hid q2
        replace q3 := Lib.hid q3
        have hxx : (x != x) = false := by simp
        clear hn1 hn2 hn3 hv hK hk0
        have HW1 := Lib.hid (HWh.out (k : Int) (p.length : Int) v g x true w2 q1.out q2.out)
        go_wp2_with fail
        (with_reducible refine HW1.out.mono ?_)
        rintro e w3 ⟨rfl, hb3⟩
        have HB3 := Lib.hid (HB2.out.trans (hb3.mono HB2.out.size))
        have HO3 := Lib.hid (HO2.out.below hb3 (Nat.le_refl _))
        clear hb3 c0 d0 HW1
        have c0 := HCx.out w3 HB3.out k x HX.out
        have d0 := HCx.out w3 HB3.out K v HV.out
        have HW2 := Lib.hid (HMa.out (k : Int) (p.length : Int) false v g x true w3 q3.out)
        go_wp2_with fail
        (with_reducible refine HW2.out.mono ?_)
        rintro e w4 ⟨rfl, hb4⟩
        have HB4 := Lib.hid (HB3.out.trans (hb4.mono HB3.out.size))
        have HO4 := Lib.hid (HO3.out.below hb4 (Nat.le_refl _))
        clear hb4 c0 d0 HW2
        go_wp2_with fail
        go_roundw
        case rel => exact ⟨k + 1, c3, a3, rfl, by go_num, by omega, Lib.hid (by rw [← HM2.out, ← hsl]; exact HO4.out), HB4⟩
        case measure => simp [intOf]; omega
      · obtain rfl : k = p.length := by omega
        have HRp := Lib.hid (by have := HO.out.row; rw [List.take_length] at this; exact this : PK.RowC wr a2 c2 (asPc p))
        have hal : (asPc p).length = p.length := HLl.out
        have hal2 : (asPc p).length ≤ 500 := by omega
        have hb := HBr.out
        clear HO HBr hlt
        replace Hp := Lib.hid (Hp.out.below hb)
        replace HB := Lib.hid (HB.out.trans (hb.mono HB.out.size))
        clear hb
        have HK1 := Lib.hid (HKe.out g (asPc p) a2 c2 true wr (HKk.out g (Int.le_refl g)) hal2 HRp.out)
        rw [hal] at HK1
        clear hal
        go_wp2_with fail
        (with_reducible refine HK1.out.mono ?_)
        rintro e w5 ⟨rfl, hb⟩
        clear HK1
        replace Hp := Lib.hid (Hp.out.below hb)
        replace HRp := Lib.hid (HRp.out.below hb)
        replace HB := Lib.hid (HB.out.trans (hb.mono HB.out.size))
        clear hb
        by_cases hgh : g < h
        · have hgd : decide (g < h) = true := decide_eq_true hgh
          have hal : (asPc p).length = p.length := HLl.out
          have HS1 := Lib.hid (HSt.out (asPc p) a2 c2 p w5 HSs.out hal2 HRp.out)
          rw [hal] at HS1
          clear hal
          go_wp2_with fail
          (with_reducible refine HS1.out.mono ?_)
          rintro e w7 ⟨a7, c7, rfl, hR, hb⟩
          clear HS1
          replace Hp := Lib.hid (Hp.out.below hb)
          replace HRp := Lib.hid (HRp.out.below hb)
          replace HB := Lib.hid (HB.out.trans (hb.mono HB.out.size))
          clear hb
          have Hq := Lib.hid hR
          clear hR
          have HX := Lib.hid (rsame_any p p a7 a1 c7 c1 true w7 (by simp) Hq.out Hp.out)
          go_wp2_with fail
          with_reducible refine HX.out.mono ?_
          rintro e w2 ⟨rfl, hb⟩
          clear HX
          replace Hp := Lib.hid (Hp.out.below hb)
          replace HRp := Lib.hid (HRp.out.below hb)
          replace Hq := Lib.hid (Hq.out.below hb)
          replace HB := Lib.hid (HB.out.trans (hb.mono HB.out.size))
          clear hb
          go_wp2_with fail
          with_reducible refine (HWk.out _).mono ?_
          rintro e wf ⟨rfl, hb⟩
          have HBf := Lib.hid (HB.out.trans (hb.mono HB.out.size))
          clear hb
          go_wp2_with fail
          go_ret
          exact ⟨rfl, HBf.out⟩
        · have hgd : decide (g < h) = false := decide_eq_false hgh
          have hal : (asPc p).length = p.length := HLl.out
          have HK1 := Lib.hid (HKe.out h (asPc p) a2 c2 true w5 (HKk.out h (by omega)) hal2 HRp.out)
          rw [hal] at HK1
          clear hal
          go_wp2_with fail
          (with_reducible refine HK1.out.mono ?_)
          rintro e w6 ⟨rfl, hb⟩
          clear HK1
          replace Hp := Lib.hid (Hp.out.below hb)
          replace HRp := Lib.hid (HRp.out.below hb)
          replace HB := Lib.hid (HB.out.trans (hb.mono HB.out.size))
          clear hb
          have hal : (asPc p).length = p.length := HLl.out
          have HS1 := Lib.hid (HSt.out (asPc p) a2 c2 p w6 HSs.out hal2 HRp.out)
          rw [hal] at HS1
          clear hal
          go_wp2_with fail
          (with_reducible refine HS1.out.mono ?_)
          rintro e w7 ⟨a7, c7, rfl, hR, hb⟩
          clear HS1
          replace Hp := Lib.hid (Hp.out.below hb)
          replace HRp := Lib.hid (HRp.out.below hb)
          replace HB := Lib.hid (HB.out.trans (hb.mono HB.out.size))
          clear hb
          have Hq := Lib.hid hR
          clear hR
          have HX := Lib.hid (rsame_any p p a7 a1 c7 c1 true w7 (by simp) Hq.out Hp.out)
          go_wp2_with fail
          with_reducible refine HX.out.mono ?_
          rintro e w2 ⟨rfl, hb⟩
          clear HX
          replace Hp := Lib.hid (Hp.out.below hb)
          replace HRp := Lib.hid (HRp.out.below hb)
          replace Hq := Lib.hid (Hq.out.below hb)
          replace HB := Lib.hid (HB.out.trans (hb.mono HB.out.size))
          clear hb
          go_wp2_with fail
          with_reducible refine (HWk.out _).mono ?_
          rintro e wf ⟨rfl, hb⟩
          have HBf := Lib.hid (HB.out.trans (hb.mono HB.out.size))
          clear hb
          go_wp2_with fail
          go_ret
          exact ⟨rfl, HBf.out⟩
end Go.Proofs.Ytpncgcaepdkcnaa
