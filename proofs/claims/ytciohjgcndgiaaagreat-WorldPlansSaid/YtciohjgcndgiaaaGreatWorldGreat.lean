/- Worlds that are too great, by the document's own answer. -/
import Derived.Test.YtciohjgcndgiaaaGreatWorldSame
set_option linter.unusedSimpArgs false
set_option linter.unusedVariables false
namespace Go.Proofs.YtciohjgcndgiaaaGreat
open Go.RowKit Go.Proofs.YtciohjgcndgiaaaGreat.Kind

set_option maxHeartbeats 4000000 in
set_option maxRecDepth 1000000 in
theorem great8 (a b : Option Addr) (n m c d : Nat) (r : Bool) (hr : r = (decide (300 < n) || decide (600 < m))) (w : World) :
    Calls Tryz.prog 14 #[.slice a n c, .slice b m d] w fun e w' => e = .returned (.bool r) ∧ w' = w := by
  by_cases h1 : 300 < n
  · obtain rfl : r = true := by rw [hr]; simp [h1]
    have h2 : (300 : Int) < n := by omega
    clear hr
    go_enter Tryz.func14, Tryz.ntmps14
    go_wp2_with fail
    go_ret
    exact ⟨rfl, rfl⟩
  · have h2 : ¬ (300 : Int) < n := by omega
    by_cases h3 : 600 < m
    · obtain rfl : r = true := by rw [hr]; simp [h3]
      have h4 : (600 : Int) < m := by omega
      clear hr
      go_enter Tryz.func14, Tryz.ntmps14
      go_wp2_with fail
      go_ret
      exact ⟨rfl, rfl⟩
    · obtain rfl : r = false := by rw [hr]; simp [h1, h3]
      have h4 : ¬ (600 : Int) < m := by omega
      clear hr
      go_enter Tryz.func14, Tryz.ntmps14
      go_wp2_with fail
      go_ret
      exact ⟨rfl, rfl⟩
/-- A world that is not too great. -/
structure WFew (A : Wo) : Prop where
  few : Few A.plan
  socks : A.socks.length ≤ 300
  marks : A.marks.length ≤ 600
  dials : A.dials.length ≤ 400
  looks : A.looks.length ≤ 400
def SomeW (A : Wo) (e : Ending) : Prop := ∃ r, e = .returned (.bool r) ∧ (r = false → WFew A)
theorem greatw_yes (A : Wo) : SomeW A (.returned (.bool true)) := ⟨true, rfl, fun h => nomatch h⟩
theorem greatw_no {A : Wo} (h : WFew A) : SomeW A (.returned (.bool false)) := ⟨false, rfl, fun _ => h⟩
set_option maxHeartbeats 8000000 in
set_option maxRecDepth 1000000 in
theorem great_world (A : Wo) (v : Wv) (w : World) (hA : WorldC w v A) :
    Calls Tryz.prog 5 #[v.val A] w fun e w' => SomeW A e ∧ Below w.heap.size w w' := by
  have HA := Lib.hid hA
  clear hA
  have HPl := Lib.hid (fun w h => great_any v.p A.plan w h)
  obtain ⟨g8, hg8⟩ : ∃ r, r = (decide (300 < A.socks.length) || decide (600 < A.marks.length)) := ⟨_, rfl⟩
  have HG8 := Lib.hid (fun w => great8 v.sa v.ma A.socks.length A.marks.length v.sc v.mc g8 hg8 w)
  have HE8 := Lib.hid hg8
  clear hg8
  simp only [Wv.val, Wv.cells, Pv.val] at HPl ⊢
  go_enter Tryz.func5, Tryz.ntmps5
  go_upto_region 1 with fail
  have hb := below1 w (.cells #[.slice v.p.za A.plan.zones.length v.p.zc, .slice v.p.fa A.plan.fates.length v.p.fc, .int .i64 A.plan.ticks, .slice v.p.da A.plan.drops.length v.p.dc, .int .i64 A.clock, .slice v.sa A.socks.length v.sc, .slice v.ia A.dials.length v.ic, .slice v.la A.looks.length v.lc, .int .i64 A.dropped, .slice v.ma A.marks.length v.mc] 32)
  have hL := laid1 w (.cells #[.slice v.p.za A.plan.zones.length v.p.zc, .slice v.p.fa A.plan.fates.length v.p.fc, .int .i64 A.plan.ticks, .slice v.p.da A.plan.drops.length v.p.dc, .int .i64 A.clock, .slice v.sa A.socks.length v.sc, .slice v.ia A.dials.length v.ic, .slice v.la A.looks.length v.lc, .int .i64 A.dropped, .slice v.ma A.marks.length v.mc] 32)
  obtain ⟨w1, hw1⟩ : ∃ w1, w1 = w.alloc (.cells #[.slice v.p.za A.plan.zones.length v.p.zc, .slice v.p.fa A.plan.fates.length v.p.fc, .int .i64 A.plan.ticks, .slice v.p.da A.plan.drops.length v.p.dc, .int .i64 A.clock, .slice v.sa A.socks.length v.sc, .slice v.ia A.dials.length v.ic, .slice v.la A.looks.length v.lc, .int .i64 A.dropped, .slice v.ma A.marks.length v.mc] 32) := ⟨_, rfl⟩
  rw [← hw1] at hb hL ⊢
  clear hw1
  have HX := Lib.hid (HPl.out w1 (HA.out.below hb).plan)
  have HB1 := Lib.hid hb
  have HL := Lib.hid hL
  obtain ⟨x0, x1, x2, x3, x4, x5, x6, x7, x8, x9⟩ := boxW HL.out (Below.refl _ w1)
  clear hb hL HA HPl
  go_wp2_with fail
  with_reducible refine HX.out.mono ?_
  rintro e w2 ⟨⟨r, rfl, hfew⟩, hb⟩
  have HFW := Lib.hid hfew
  have HB2 := Lib.hid (HB1.out.trans (hb.mono HB1.out.size))
  clear x0 x1 x2 x3 x4 x5 x6 x7 x8 x9 HX hfew
  obtain ⟨x0, x1, x2, x3, x4, x5, x6, x7, x8, x9⟩ := boxW HL.out hb
  clear hb
  cases r with
  | true =>
    go_wp2_with fail
    go_ret
    exact ⟨greatw_yes A, HB2.out⟩
  | false =>
    go_wp2_with fail
    with_reducible refine (HG8.out w2).mono ?_
    rintro e w3 ⟨rfl, rfl⟩
    cases g8 with
    | true =>
      go_wp2_with fail
      go_ret
      exact ⟨greatw_yes A, HB2.out⟩
    | false =>
      by_cases h1 : (400 : Int) < (A.dials.length : Int)
      · go_wp2_with fail
        go_ret
        exact ⟨greatw_yes A, HB2.out⟩
      · by_cases h2 : (400 : Int) < (A.looks.length : Int)
        · go_wp2_with fail
          go_ret
          exact ⟨greatw_yes A, HB2.out⟩
        · have HN := Lib.hid (show WFew A from by
            have h3 := HE8.out
            simp only [Bool.false_eq, Bool.or_eq_false_iff, decide_eq_false_iff_not] at h3
            exact ⟨HFW.out (by trivial), by omega, by omega, by omega, by omega⟩)
          go_wp2_with fail
          go_ret
          exact ⟨⟨_, rfl, fun _ => HN.out⟩, HB2.out⟩
end Go.Proofs.YtciohjgcndgiaaaGreat
