/- OrderFirst walked. -/
import Derived.Test.YtcihcdifjnobjaaLawB
set_option linter.unusedSimpArgs false
set_option linter.unusedVariables false
namespace Go.Proofs.Ytcihcdifjnobjaa
open Go.RowKit Go.Proofs.Ytcihcdifjnobjaa.Kind

set_option maxHeartbeats 40000000 in
set_option maxRecDepth 1000000 in
theorem orderfirst_walk (HOn : OnceSpec) (HTu : TurnsSpec) (HLi : ListSpec) (HFi : FirstSpec) (HPl : PlaceSpec) (HWk : WakesSpec) (l : List Ad) (n : Int) (s : Option Addr) (c : Nat) (w : World) (hR : AK.RowC w s c l) :
    Calls Try.prog 7 #[.slice s l.length c, .int .i64 n] w fun e w' => e = .returned (.bool true) ∧ Below w.heap.size w w' := by
  have HOn := Lib.hid (fun l s c L w h h1 h2 => HOn l s c L w h h1 h2)
  have HTu := Lib.hid (fun l s c L w h h1 h2 => HTu l s c L w h h1 h2)
  have HLi := Lib.hid (fun l bad s v c d L w h h1 h2 h3 h4 => HLi l bad s v c d L w h h1 h2 h3 h4)
  have HFi := Lib.hid (fun n l s c L w h h1 h2 => HFi n l s c L w h h1 h2)
  have HPl := Lib.hid (fun l a s c r w h h1 h2 => HPl l a s c r w h h1 h2)
  have HWk := Lib.hid (fun w => HWk w)
  have HB := Lib.hid (Below.refl w.heap.size w)
  have Hl := Lib.hid hR
  have hml : l.length ≤ 9223372036854775807 := by have h1 := hR.1; have h2 := hR.2.1; unfold maxLen at h2; omega
  clear hR
  go_enter Try.func7, Try.ntmps7
  have HG := Lib.hid (rgreatA_any l s c _ w rfl hml)
  by_cases hg0 : 60 < l.length
  · rw [decide_eq_true hg0] at HG
    go_wp2_with fail
    (with_reducible refine HG.out.mono ?_)
    rintro e w1 ⟨rfl, hw1⟩
    subst w1
    go_wp2_with fail
    with_reducible refine (HWk.out _).mono ?_
    rintro e wf ⟨rfl, hb⟩
    have HBf := Lib.hid (HB.out.trans (hb.mono HB.out.size))
    clear hb
    go_wp2_with fail
    go_ret
    exact ⟨rfl, HBf.out⟩
  rw [decide_eq_false hg0] at HG
  go_wp2_with fail
  (with_reducible refine HG.out.mono ?_)
  rintro e w1 ⟨rfl, hw1⟩
  subst w1
  clear HG
  have hll : l.length ≤ 60 := by omega
  obtain ⟨q, hq1, hq2⟩ : ∃ q : Nat, q ≤ l.length ∧ q = min n.toNat l.length := ⟨_, Nat.min_le_right _ _, rfl⟩
  obtain ⟨L1, hL1⟩ : ∃ L1, L1 = firstZ n l := ⟨_, rfl⟩
  have hL2 : l.take q = L1 := by rw [hL1, hq2]; unfold firstZ; rw [← List.take_eq_take_min]
  have hLl : L1.length = q := by rw [← hL2, List.length_take]; omega
  have hL3 : L1 = firstZ (L1.length : Int) L1 := by unfold firstZ; rw [Int.toNat_natCast, List.take_length]
  have hmn : (if (l.length : Int) < if n < 0 then 0 else n then (l.length : Int) else if n < 0 then 0 else n) = (q : Int) := by rw [hq2]; split <;> split at * <;> omega
  replace hL1 := Lib.hid hL1
  replace hL2 := Lib.hid hL2
  replace hL3 := Lib.hid hL3
  replace hLl := Lib.hid hLl
  replace hq2 := Lib.hid hq2
  have hc1 : (q : Int) ≤ (c : Int) := by have := Hl.out.1; omega
  have hqq : ((q : Int) == (q : Int)) = true := by simp
  have HX := Lib.hid (HFi.out n l s c L1 w hL1.out (by omega) Hl.out)
  go_wp2_with fail
  with_reducible refine HX.out.mono ?_
  rintro e w1 ⟨a1, c1, rfl, hR, hb⟩
  clear HX
  replace Hl := Lib.hid (Hl.out.below hb)
  replace HB := Lib.hid (HB.out.trans (hb.mono HB.out.size))
  clear hb
  have Ha := Lib.hid hR
  clear hR
  rw [hLl.out]
  clear hmn
  by_cases hn0 : n < 0
  · have hqz : q = 0 := by rw [hq2.out]; omega
    have hqi : (q : Int) = 0 := by omega
    have hqq2 : ((q : Int) == 0) = true := by rw [hqi]; rfl
    clear hqz hqi
    have HX := Lib.hid (rsame_any L1 L1 a1 s c1 c true w1 (by simp) Ha.out (hL2.out ▸ Hl.out.take (a' := s) q hq1 rfl))
    rw [hLl.out] at HX
    go_wp2_with fail
    with_reducible refine HX.out.mono ?_
    rintro e w9 ⟨rfl, hb⟩
    clear HX
    replace Hl := Lib.hid (Hl.out.below hb)
    replace Ha := Lib.hid (Ha.out.below hb)
    replace HB := Lib.hid (HB.out.trans (hb.mono HB.out.size))
    clear hb
    have HX := Lib.hid (HFi.out (L1.length : Int) L1 a1 c1 L1 w9 hL3.out (by rw [hLl.out]; omega) Ha.out)
    rw [hLl.out] at HX
    go_wp2_with fail
    with_reducible refine HX.out.mono ?_
    rintro e w10 ⟨a2, c2, rfl, hR, hb⟩
    clear HX
    replace Hl := Lib.hid (Hl.out.below hb)
    replace Ha := Lib.hid (Ha.out.below hb)
    replace HB := Lib.hid (HB.out.trans (hb.mono HB.out.size))
    clear hb
    have Hb := Lib.hid hR
    clear hR
    have HX := Lib.hid (rsame_any L1 L1 a2 a1 c2 c1 true w10 (by simp) Hb.out Ha.out)
    rw [hLl.out] at HX
    go_wp2_with fail
    with_reducible refine HX.out.mono ?_
    rintro e w11 ⟨rfl, hb⟩
    clear HX
    replace Hl := Lib.hid (Hl.out.below hb)
    replace Ha := Lib.hid (Ha.out.below hb)
    replace Hb := Lib.hid (Hb.out.below hb)
    replace HB := Lib.hid (HB.out.trans (hb.mono HB.out.size))
    clear hb
    go_wp2_with fail
    with_reducible refine (HWk.out _).mono ?_
    rintro e wf ⟨rfl, hb⟩
    have HBf := Lib.hid (HB.out.trans (hb.mono HB.out.size))
    clear hb
    go_wp2_with fail
    go_ret
    exact ⟨rfl, HBf.out⟩
  · have hnn : 0 ≤ n := by omega
    have hmn2 : (if (l.length : Int) < n then (l.length : Int) else n) = (q : Int) := by rw [hq2.out]; split <;> omega
    have HX := Lib.hid (rsame_any L1 L1 a1 s c1 c true w1 (by simp) Ha.out (hL2.out ▸ Hl.out.take (a' := s) q hq1 rfl))
    rw [hLl.out] at HX
    go_wp2_with fail
    with_reducible refine HX.out.mono ?_
    rintro e w9 ⟨rfl, hb⟩
    clear HX
    replace Hl := Lib.hid (Hl.out.below hb)
    replace Ha := Lib.hid (Ha.out.below hb)
    replace HB := Lib.hid (HB.out.trans (hb.mono HB.out.size))
    clear hb
    have HX := Lib.hid (HFi.out (L1.length : Int) L1 a1 c1 L1 w9 hL3.out (by rw [hLl.out]; omega) Ha.out)
    rw [hLl.out] at HX
    go_wp2_with fail
    with_reducible refine HX.out.mono ?_
    rintro e w10 ⟨a2, c2, rfl, hR, hb⟩
    clear HX
    replace Hl := Lib.hid (Hl.out.below hb)
    replace Ha := Lib.hid (Ha.out.below hb)
    replace HB := Lib.hid (HB.out.trans (hb.mono HB.out.size))
    clear hb
    have Hb := Lib.hid hR
    clear hR
    have HX := Lib.hid (rsame_any L1 L1 a2 a1 c2 c1 true w10 (by simp) Hb.out Ha.out)
    rw [hLl.out] at HX
    go_wp2_with fail
    with_reducible refine HX.out.mono ?_
    rintro e w11 ⟨rfl, hb⟩
    clear HX
    replace Hl := Lib.hid (Hl.out.below hb)
    replace Ha := Lib.hid (Ha.out.below hb)
    replace Hb := Lib.hid (Hb.out.below hb)
    replace HB := Lib.hid (HB.out.trans (hb.mono HB.out.size))
    clear hb
    go_wp2_with fail
    with_reducible refine (HWk.out _).mono ?_
    rintro e wf ⟨rfl, hb⟩
    have HBf := Lib.hid (HB.out.trans (hb.mono HB.out.size))
    clear hb
    go_wp2_with fail
    go_ret
    exact ⟨rfl, HBf.out⟩
end Go.Proofs.Ytcihcdifjnobjaa
