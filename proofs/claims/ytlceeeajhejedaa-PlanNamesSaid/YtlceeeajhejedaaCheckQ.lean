/- Check, whole. -/
import Derived.Test.YtlceeeajhejedaaCheckP
import Derived.Test.YtlceeeajhejedaaWakes
set_option linter.unusedSimpArgs false
set_option linter.unusedVariables false
namespace Go.Proofs.Ytlceeeajhejedaa
open Go.RowKit Go.Proofs.Ytlceeeajhejedaa.Kind

def theR : Rules := ⟨zokB, fokB⟩
theorem check_as (P : Pl) : checkB theR P = (lensB P && (numsB P && partsB P.zones P.fates)) := by
  unfold checkB lensB numsB partsB theR
  rw [Bool.eq_iff_iff]
  simp only [Bool.and_eq_true, decide_eq_true_eq]
  constructor
  · rintro ⟨⟨⟨⟨⟨⟨⟨⟨h1, h2⟩, h3⟩, h4⟩, h5⟩, h6⟩, h7⟩, h8⟩, h9⟩
    exact ⟨⟨h1, h4, h8⟩, ⟨h9, h7⟩, ⟨⟨h2, h5⟩, h3⟩, h6⟩
  · rintro ⟨⟨h1, h4, h8⟩, ⟨h9, h7⟩, ⟨⟨h2, h5⟩, h3⟩, h6⟩
    exact ⟨⟨⟨⟨⟨⟨⟨⟨h1, h2⟩, h3⟩, h4⟩, h5⟩, h6⟩, h7⟩, h8⟩, h9⟩
theorem theR_w : checkB theR planW = true := by decide +kernel

set_option maxHeartbeats 8000000 in
set_option maxRecDepth 1000000 in
theorem check_real : CheckSpec theR := by
  intro P v w r hS hP hr
  rw [check_as] at hr
  have HLn := Lib.hid (fun w => lens_any P v w)
  have HNm := Lib.hid (fun w h => nums_any P v w h)
  have HPt := Lib.hid (fun zs fs w h1 h2 h3 h4 h5 h6 => parts_any P v zs fs w h1 h2 h3 h4 h5 h6)
  obtain ⟨⟨zs, hz⟩, ⟨fs, hf⟩, hd⟩ := hP
  have HZ := Lib.hid hz
  have HF := Lib.hid hf
  have HD := Lib.hid hd
  clear hz hf hd
  obtain ⟨za, zc, fa, fc, da, dc⟩ := v
  simp only [Pv.val] at HLn HNm HPt HZ HF HD ⊢
  obtain ⟨o1, ho1⟩ : ∃ o1 : Obj, o1 = .cells #[.slice za P.zones.length zc, .slice fa P.fates.length fc, .int .i64 P.ticks, .slice da P.drops.length dc] 26 := ⟨_, rfl⟩
  have HB := Lib.hid (below1 w o1)
  have HL := Lib.hid (laid1 w o1)
  rw [ho1] at HB HL
  clear ho1
  obtain ⟨W1, hW1⟩ : ∃ W1, W1 = w.alloc (.cells #[.slice za P.zones.length zc, .slice fa P.fates.length fc, .int .i64 P.ticks, .slice da P.drops.length dc] 26) := ⟨_, rfl⟩
  have hN : W1.heap.size = w.heap.size + 1 := by rw [hW1]; simp
  rw [← hW1] at HB HL
  go_enter Try.func13, Try.ntmps13
  go_upto_region 1 with fail
  rw [← hW1]
  clear hW1
  have hlt : w.heap.size < W1.heap.size := by omega
  obtain ⟨⟨x0, x1, x2, x3⟩, _⟩ := box4 HL.out
  go_wp2_with fail
  with_reducible refine (HLn.out _).mono ?_
  rintro e w2 ⟨rfl, hb2⟩
  have HB2 := Lib.hid hb2
  have HL2 := Lib.hid ((hb2.block _ hlt).trans HL.out)
  clear hb2 x0 x1 x2 x3 HL HLn
  obtain ⟨⟨x0, x1, x2, x3⟩, _⟩ := box4 HL2.out
  cases hq : lensB P
  · obtain rfl : r = 90 := by rw [hr, hq]; rfl
    clear hr hq
    go_wp2_with fail
    go_ret
    exact ⟨rfl, HB.out.trans (HB2.out.mono (by omega))⟩
  · have hr2 : r = if (numsB P && partsB P.zones P.fates) = true then 0 else 90 := by rw [hr, hq]; rfl
    have hq2 := hq
    unfold lensB at hq2
    have HQ := Lib.hid (of_decide_eq_true hq2)
    clear hr hq hq2
    go_wp2_with fail
    with_reducible refine (HNm.out _ (HD.out.below (HB.out.trans (HB2.out.mono (by omega))))).mono ?_
    rintro e w3 ⟨rfl, hb3⟩
    have hs2 := HB2.out.size
    have HB3 := Lib.hid (HB2.out.trans (hb3.mono hs2))
    have HL3 := Lib.hid ((hb3.block _ (by omega)).trans HL2.out)
    clear hb3 x0 x1 x2 x3 HL2 HNm
    obtain ⟨⟨x0, x1, x2, x3⟩, _⟩ := box4 HL3.out
    cases hn : numsB P
    · obtain rfl : r = 90 := by rw [hr2, hn]; rfl
      clear hr2 hn
      go_wp2_with fail
      go_ret
      exact ⟨rfl, HB.out.trans (HB3.out.mono (by omega))⟩
    · have hr3 : r = if partsB P.zones P.fates = true then 0 else 90 := by rw [hr2, hn]; rfl
      clear hr2 hn
      have HBa := Lib.hid (HB.out.trans (HB3.out.mono (by omega)))
      have hzl : zs.length ≤ 8 := by have h1 := HQ.out.1; have h2 := HZ.out.1; omega
      have hfl : fs.length ≤ 32 := by have h1 := HQ.out.2.1; have h2 := HF.out.1; omega
      have HPx := Lib.hid (HPt.out zs fs w3 (HZ.out.below zoP_steady HBa.out).2.1 (HF.out.below foP_steady HBa.out).2.1 HZ.out.1.symm HF.out.1.symm hzl hfl)
      go_wp2_with fail
      with_reducible refine HPx.out.mono ?_
      rintro e w4 ⟨pa, pc, rfl, hrow, hb4⟩
      have HB4 := Lib.hid (HBa.out.trans (hb4.mono HBa.out.size))
      have HMx := Lib.hid (mayParts_any zs fs P.zones P.fates _ rfl pa pc w4 hrow ((HZ.out.each.below zoP_steady HB4.out)) ((HF.out.each.below foP_steady HB4.out)) (fun z hz => by have := (hS z hz).1; omega) hzl hfl)
      clear hb4 hrow x0 x1 x2 x3 HL3 HPx HPt
      generalize (zs.map Pt.z ++ fs.map Pt.f).length = PN at *
      go_wp2_with fail
      with_reducible refine HMx.out.mono ?_
      rintro e w5 ⟨rfl, hb5⟩
      have HB5 := Lib.hid (HB4.out.trans (hb5.mono HB4.out.size))
      clear hb5 HMx
      cases hp : partsB P.zones P.fates
      · obtain rfl : r = 90 := by rw [hr3, hp]; rfl
        clear hr3 hp
        go_wp2_with fail
        go_ret
        exact ⟨rfl, HB5.out⟩
      · obtain rfl : r = 0 := by rw [hr3, hp]; rfl
        clear hr3 hp
        go_wp2_with fail
        go_ret
        exact ⟨rfl, HB5.out⟩
end Go.Proofs.Ytlceeeajhejedaa
