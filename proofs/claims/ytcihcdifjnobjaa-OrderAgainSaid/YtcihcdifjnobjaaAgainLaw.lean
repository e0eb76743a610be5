/- OrderAgain walked. -/
import Derived.Test.YtcihcdifjnobjaaLawB
set_option linter.unusedSimpArgs false
set_option linter.unusedVariables false
namespace Go.Proofs.Ytcihcdifjnobjaa
open Go.RowKit Go.Proofs.Ytcihcdifjnobjaa.Kind

set_option maxHeartbeats 40000000 in
set_option maxRecDepth 1000000 in
theorem orderagain_walk (HOn : OnceSpec) (HTu : TurnsSpec) (HLi : ListSpec) (HFi : FirstSpec) (HPl : PlaceSpec) (HWk : WakesSpec) (l m : List Ad) (s s1 : Option Addr) (c c1 : Nat) (w : World) (kl : OkL l) (km : OkL m) (hR : AK.RowC w s c l) (hM : AK.RowC w s1 c1 m) :
    Calls Try.prog 8 #[.slice s l.length c, .slice s1 m.length c1] w fun e w' => e = .returned (.bool true) ∧ Below w.heap.size w w' := by
  have HOn := Lib.hid (fun l s c L w h h1 h2 => HOn l s c L w h h1 h2)
  have HTu := Lib.hid (fun l s c L w h h1 h2 => HTu l s c L w h h1 h2)
  have HLi := Lib.hid (fun l bad s v c d L w h h1 h2 h3 h4 => HLi l bad s v c d L w h h1 h2 h3 h4)
  have HFi := Lib.hid (fun n l s c L w h h1 h2 => HFi n l s c L w h h1 h2)
  have HPl := Lib.hid (fun l a s c r w h h1 h2 => HPl l a s c r w h h1 h2)
  have HWk := Lib.hid (fun w => HWk w)
  have HB := Lib.hid (Below.refl w.heap.size w)
  have Hl := Lib.hid hR
  have hml : l.length ≤ 9223372036854775807 := by have h1 := hR.1; have h2 := hR.2.1; unfold maxLen at h2; omega
  have Hm := Lib.hid hM
  have hmm : m.length ≤ 9223372036854775807 := by have h1 := hM.1; have h2 := hM.2.1; unfold maxLen at h2; omega
  have HKl := Lib.hid kl
  clear kl
  have HKm := Lib.hid km
  clear km
  clear hR hM
  go_enter Try.func8, Try.ntmps8
  have HG := Lib.hid (rgreatA_any l s c _ w rfl hml)
  by_cases hg0 : 60 < l.length
  · rw [decide_eq_true hg0] at HG
    go_wp2_with fail
    (with_reducible refine HG.out.mono ?_)
    rintro e w1 ⟨rfl, hw1⟩
    subst w1
    go_wp2_with fail
    with_reducible refine (HWk.out _).mono ?_
    rintro e wf ⟨rfl, hb⟩
    have HBf := Lib.hid (HB.out.trans (hb.mono HB.out.size))
    clear hb
    go_wp2_with fail
    go_ret
    exact ⟨rfl, HBf.out⟩
  rw [decide_eq_false hg0] at HG
  go_wp2_with fail
  (with_reducible refine HG.out.mono ?_)
  rintro e w1 ⟨rfl, hw1⟩
  subst w1
  clear HG
  have HG := Lib.hid (rgreatA_any m s1 c1 _ w rfl hmm)
  by_cases hg1 : 60 < m.length
  · rw [decide_eq_true hg1] at HG
    go_wp2_with fail
    (with_reducible refine HG.out.mono ?_)
    rintro e w1 ⟨rfl, hw1⟩
    subst w1
    go_wp2_with fail
    with_reducible refine (HWk.out _).mono ?_
    rintro e wf ⟨rfl, hb⟩
    have HBf := Lib.hid (HB.out.trans (hb.mono HB.out.size))
    clear hb
    go_wp2_with fail
    go_ret
    exact ⟨rfl, HBf.out⟩
  rw [decide_eq_false hg1] at HG
  go_wp2_with fail
  (with_reducible refine HG.out.mono ?_)
  rintro e w1 ⟨rfl, hw1⟩
  subst w1
  clear HG
  have hll : l.length ≤ 60 := by omega
  have hlm : m.length ≤ 60 := by omega
  obtain ⟨L1, hL1⟩ : ∃ x, x = Turn.list famA l m := ⟨_, rfl⟩
  obtain ⟨L2, hL2⟩ : ∃ x, x = Turn.turns famA l := ⟨_, rfl⟩
  obtain ⟨L3, hL3⟩ : ∃ x, x = Turn.once l := ⟨_, rfl⟩
  have h1 : L1 = Turn.list famA L1 m := by rw [hL1, Turn.list_list]
  have h2 : L2 = Turn.turns famA L2 := by rw [hL2, Turn.turns_turns]
  have h3 : L3 = Turn.once L3 := by rw [hL3, Turn.once_id (Turn.once_nodup l)]
  have h13 : L1.length = L3.length := by rw [hL1, hL3]; exact Turn.list_len l m
  have h2l : L2.length = l.length := by rw [hL2]; exact Turn.turns_len l
  have h3l : L3.length ≤ 60 := by have := Turn.once_len l; rw [hL3]; omega
  have e1 : ((L1.length : Int) == (L3.length : Int)) = true := by rw [h13]; simp
  have e2 : ((L2.length : Int) == (l.length : Int)) = true := by rw [h2l]; simp
  have e3 : L1.length ≤ 400 := by omega
  have e4 : L2.length ≤ 400 := by omega
  have e5 : L3.length ≤ 400 := by omega
  replace hL1 := Lib.hid hL1
  replace hL2 := Lib.hid hL2
  replace hL3 := Lib.hid hL3
  replace h1 := Lib.hid h1
  replace h2 := Lib.hid h2
  replace h3 := Lib.hid h3
  replace h13 := Lib.hid h13
  replace h2l := Lib.hid h2l
  have HX := Lib.hid (HLi.out l m s s1 c c1 L1 w ⟨hL1.out, HKl.out, HKm.out⟩ (by omega) (by omega) Hl.out Hm.out)
  go_wp2_with fail
  with_reducible refine HX.out.mono ?_
  rintro e w1 ⟨a1, b1, rfl, hR, hb⟩
  clear HX
  replace Hl := Lib.hid (Hl.out.below hb)
  replace Hm := Lib.hid (Hm.out.below hb)
  replace HB := Lib.hid (HB.out.trans (hb.mono HB.out.size))
  clear hb
  have HA := Lib.hid hR
  clear hR
  have HX := Lib.hid (HTu.out l s c L2 w1 ⟨hL2.out, HKl.out⟩ (by omega) Hl.out)
  go_wp2_with fail
  with_reducible refine HX.out.mono ?_
  rintro e w2 ⟨a2, b2, rfl, hR, hb⟩
  clear HX
  replace Hl := Lib.hid (Hl.out.below hb)
  replace Hm := Lib.hid (Hm.out.below hb)
  replace HA := Lib.hid (HA.out.below hb)
  replace HB := Lib.hid (HB.out.trans (hb.mono HB.out.size))
  clear hb
  have HT := Lib.hid hR
  clear hR
  have HX := Lib.hid (HOn.out l s c L3 w2 ⟨hL3.out, HKl.out⟩ (by omega) Hl.out)
  go_wp2_with fail
  with_reducible refine HX.out.mono ?_
  rintro e w3 ⟨a3, b3, rfl, hR, hb⟩
  clear HX
  replace Hl := Lib.hid (Hl.out.below hb)
  replace Hm := Lib.hid (Hm.out.below hb)
  replace HA := Lib.hid (HA.out.below hb)
  replace HT := Lib.hid (HT.out.below hb)
  replace HB := Lib.hid (HB.out.trans (hb.mono HB.out.size))
  clear hb
  have HO := Lib.hid hR
  clear hR
  have HX := Lib.hid (HLi.out L1 m a1 s1 b1 c1 L1 w3 ⟨h1.out, okL_list hL1.out HKl.out, HKm.out⟩ e3 (by omega) HA.out Hm.out)
  go_wp2_with fail
  with_reducible refine HX.out.mono ?_
  rintro e w4 ⟨a5, b5, rfl, hR, hb⟩
  clear HX
  replace Hl := Lib.hid (Hl.out.below hb)
  replace Hm := Lib.hid (Hm.out.below hb)
  replace HA := Lib.hid (HA.out.below hb)
  replace HT := Lib.hid (HT.out.below hb)
  replace HO := Lib.hid (HO.out.below hb)
  replace HB := Lib.hid (HB.out.trans (hb.mono HB.out.size))
  clear hb
  have HP := Lib.hid hR
  clear hR
  have HX := Lib.hid (rsame_any L1 L1 a5 a1 b5 b1 true w4 (by simp) HP.out HA.out)
  go_wp2_with fail
  with_reducible refine HX.out.mono ?_
  rintro e w5 ⟨rfl, hb⟩
  clear HX
  replace Hl := Lib.hid (Hl.out.below hb)
  replace Hm := Lib.hid (Hm.out.below hb)
  replace HA := Lib.hid (HA.out.below hb)
  replace HT := Lib.hid (HT.out.below hb)
  replace HO := Lib.hid (HO.out.below hb)
  replace HP := Lib.hid (HP.out.below hb)
  replace HB := Lib.hid (HB.out.trans (hb.mono HB.out.size))
  clear hb
  clear HP
  have HX := Lib.hid (HTu.out L2 a2 b2 L2 w5 ⟨h2.out, okL_turns hL2.out HKl.out⟩ e4 HT.out)
  go_wp2_with fail
  with_reducible refine HX.out.mono ?_
  rintro e w6 ⟨a5, b5, rfl, hR, hb⟩
  clear HX
  replace Hl := Lib.hid (Hl.out.below hb)
  replace Hm := Lib.hid (Hm.out.below hb)
  replace HA := Lib.hid (HA.out.below hb)
  replace HT := Lib.hid (HT.out.below hb)
  replace HO := Lib.hid (HO.out.below hb)
  replace HB := Lib.hid (HB.out.trans (hb.mono HB.out.size))
  clear hb
  have HP := Lib.hid hR
  clear hR
  have HX := Lib.hid (rsame_any L2 L2 a5 a2 b5 b2 true w6 (by simp) HP.out HT.out)
  go_wp2_with fail
  with_reducible refine HX.out.mono ?_
  rintro e w7 ⟨rfl, hb⟩
  clear HX
  replace Hl := Lib.hid (Hl.out.below hb)
  replace Hm := Lib.hid (Hm.out.below hb)
  replace HA := Lib.hid (HA.out.below hb)
  replace HT := Lib.hid (HT.out.below hb)
  replace HO := Lib.hid (HO.out.below hb)
  replace HP := Lib.hid (HP.out.below hb)
  replace HB := Lib.hid (HB.out.trans (hb.mono HB.out.size))
  clear hb
  clear HP
  have HX := Lib.hid (HOn.out L3 a3 b3 L3 w7 ⟨h3.out, okL_once hL3.out HKl.out⟩ e5 HO.out)
  go_wp2_with fail
  with_reducible refine HX.out.mono ?_
  rintro e w8 ⟨a5, b5, rfl, hR, hb⟩
  clear HX
  replace Hl := Lib.hid (Hl.out.below hb)
  replace Hm := Lib.hid (Hm.out.below hb)
  replace HA := Lib.hid (HA.out.below hb)
  replace HT := Lib.hid (HT.out.below hb)
  replace HO := Lib.hid (HO.out.below hb)
  replace HB := Lib.hid (HB.out.trans (hb.mono HB.out.size))
  clear hb
  have HP := Lib.hid hR
  clear hR
  have HX := Lib.hid (rsame_any L3 L3 a5 a3 b5 b3 true w8 (by simp) HP.out HO.out)
  go_wp2_with fail
  with_reducible refine HX.out.mono ?_
  rintro e w9 ⟨rfl, hb⟩
  clear HX
  replace Hl := Lib.hid (Hl.out.below hb)
  replace Hm := Lib.hid (Hm.out.below hb)
  replace HA := Lib.hid (HA.out.below hb)
  replace HT := Lib.hid (HT.out.below hb)
  replace HO := Lib.hid (HO.out.below hb)
  replace HP := Lib.hid (HP.out.below hb)
  replace HB := Lib.hid (HB.out.trans (hb.mono HB.out.size))
  clear hb
  clear HP
  go_wp2_with fail
  with_reducible refine (HWk.out _).mono ?_
  rintro e wf ⟨rfl, hb⟩
  have HBf := Lib.hid (HB.out.trans (hb.mono HB.out.size))
  clear hb
  go_wp2_with fail
  go_ret
  exact ⟨rfl, HBf.out⟩
end Go.Proofs.Ytcihcdifjnobjaa
