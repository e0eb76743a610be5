/- Answer and Fate. -/
import Derived.Test.YtlceeeajhejedaaFind
set_option linter.unusedSimpArgs false
set_option linter.unusedVariables false
namespace Go.Proofs.Ytlceeeajhejedaa
open Go.RowKit Go.Proofs.Ytlceeeajhejedaa.Kind

theorem none_at {α β : Type} {hs : List α} {L : List β} (h : hs.length = L.length) {k : Nat} {y : β} (hy : L[k]? = some y) : ∃ x, hs[k]? = some x := ⟨_, List.getElem?_eq_getElem (by have := (List.getElem?_eq_some_iff.1 hy).1; omega)⟩

set_option maxHeartbeats 8000000 in
set_option maxRecDepth 1000000 in
theorem answer_real : AnswerSpec := by
  intro P v s n w L r hF hP hL hr
  obtain ⟨za, zc, fa, fc, da, dc⟩ := v
  obtain ⟨⟨zs, hz⟩, hfs, hdr⟩ := hP
  simp only [Pv.val]
  dsimp only at hz
  have hzl := hz.1
  have HZ := Lib.hid hz
  clear hz hfs hdr
  obtain ⟨o1, ho1⟩ : ∃ o1 : Obj, o1 = .cells #[.slice za P.zones.length zc, .slice fa P.fates.length fc, .int .i64 P.ticks, .slice da P.drops.length dc] 26 := ⟨_, rfl⟩
  obtain ⟨o2, ho2⟩ : ∃ o2 : Obj, o2 = .cells #[.string s] 9 := ⟨_, rfl⟩
  have HB2 := Lib.hid (below2 w o1 o2)
  have HI := Lib.hid (index_zone s (w.heap.size + 1) 9 zs P.zones.length hzl.symm za zc ((w.alloc o1).alloc o2) (by rw [(laid2 w o1 o2).2, ho2]) (HZ.out.2.1.below (below2 w o1 o2)))
  have hsame : idxI (fun z : Zv => decide (z.name = s)) zs = idxI (fun z : Zo => decide (z.name = s)) P.zones := idxI_same hzl (fun j x y hx hy => by rw [(HZ.out.2.2 j x y hx hy).1])
  rw [hsame] at HI
  have HL1 := Lib.hid (laid2 w o1 o2).1
  rw [ho1, ho2] at HI HB2
  rw [ho1] at HL1
  rw [ho2] at HL1
  clear hsame
  obtain ⟨W2, hW2⟩ : ∃ W2, W2 = (w.alloc (.cells #[.slice za P.zones.length zc, .slice fa P.fates.length fc, .int .i64 P.ticks, .slice da P.drops.length dc] 26)).alloc (.cells #[.string s] 9) := ⟨_, rfl⟩
  rw [← hW2] at HI HB2 HL1
  have HN2 : W2.heap.size = w.heap.size + 2 := by rw [hW2]; simp
  clear ho1 ho2
  go_enter Try.func8, Try.ntmps8
  go_upto_region 1 with fail
  rw [← hW2]
  have HW2 := Lib.hid hW2
  clear hW2
  obtain ⟨⟨x0, x1, x2, x3⟩, _⟩ := box4 HL1.out
  go_wp2_with fail
  with_reducible refine HI.out.mono ?_
  rintro e w1 ⟨rfl, hb1⟩
  have HB1 := Lib.hid hb1
  have hb1s := hb1.size
  have HL := Lib.hid ((hb1.block w.heap.size (by omega)).trans HL1.out)
  clear hb1 HI x0 x1 x2 x3 HL1
  obtain ⟨⟨x0, x1, x2, x3⟩, _⟩ := box4 HL.out
  rcases idx_cases (fun z : Zo => decide (z.name = s)) P.zones with ⟨h1, h2⟩ | ⟨k, z, h1, h2, h3⟩
  · rw [h1]
    have HLe : L = [] ∧ r = 110 := by
      subst hL hr
      have : answerP P s n = [] := by unfold answerP zoneOf; rw [h2]
      simp [this, answerE]
    obtain ⟨rfl, rfl⟩ := HLe
    clear h1 h2 hL hr
    go_wp2_with fail
    go_ret2
    exact ⟨none, 0, rfl, row_none _, HB2.out.trans (HB1.out.mono (by omega))⟩
  · rw [h1]
    obtain ⟨x, g, o, hx, rfl, hg, hat, hPz⟩ := (HZ.out.below zoP_steady (HB2.out.trans (HB1.out.mono (by omega)))).get h2
    obtain ⟨y0, y1⟩ := ZK.two hat hx
    obtain ⟨hnm, hal, hs, hans⟩ := hPz
    have hkz : k < P.zones.length := (List.getElem?_eq_some_iff.1 h2).1
    have hzmem : z ∈ P.zones := List.mem_of_getElem? h2
    have hans1 := hans.1
    have HA := Lib.hid hans
    clear hat hans h1
    have HX3 := Lib.hid h3
    have HX2 := Lib.hid h2
    have HXX := Lib.hid hx
    clear h3 h2 hx hnm
    by_cases h0 : z.ans.length = 0
    · have HLe : L = [] ∧ r = 110 := by
        subst hL hr
        have : answerP P s n = [] := by
          unfold answerP zoneOf
          rw [HX3.out]
          have : z.ans = [] := List.length_eq_zero_iff.1 h0
          simp [this]
        simp [this, answerE]
      obtain ⟨rfl, rfl⟩ := HLe
      rw [h0] at hal
      rw [hal] at y1
      clear hL hr
      have HT := Lib.hid (nth_ans_none n x.h.a x.h.c w1)
      go_wp2_with fail
      with_reducible refine HT.out.mono ?_
      rintro e w2 ⟨rfl, rfl⟩
      go_wp2_with fail
      go_ret2
      exact ⟨none, 0, rfl, row_none _, HB2.out.trans (HB1.out.mono (by omega))⟩
    · have hnth : nthI n z.ans.length < z.ans.length := by unfold nthI; omega
      obtain ⟨l, hl⟩ : ∃ l, z.ans[nthI n z.ans.length]? = some l := ⟨_, List.getElem?_eq_getElem hnth⟩
      obtain ⟨y, hy⟩ := none_at hans1 hl
      have hyl := HA.out.2.2 _ y l hy hl
      have hans2 : z.ans.length = hs.length := hans1.symm
      have HR : r = if L.length = 0 then 110 else 0 := by rw [hr, hL]; rfl
      have HLL : L = l := by
        rw [hL]
        unfold answerP zoneOf
        rw [HX3.out]
        simp [hl]
      have hll : l.length ≤ 4398046511104 := hF.1 z hzmem l (List.mem_of_getElem? hl)
      have HT := Lib.hid (nth_ans n hs y x.h.a x.h.c w1 HA.out.2.1 (by rw [← hans2]; exact hy))
      rw [hal, hans2] at y1
      clear hL hr
      subst HLL
      have HCl := Lib.hid (clone_ads L y.a y.c w1 hyl.2 hll)
      rw [hyl.1] at HT
      clear hy hl hnth hyl hal hans1 hans2
      go_wp2_with fail
      with_reducible refine HT.out.mono ?_
      rintro e w2 ⟨rfl, rfl⟩
      clear HT
      by_cases hL0 : L.length = 0
      · rw [if_pos hL0] at HR
        obtain rfl : L = [] := List.length_eq_zero_iff.1 hL0
        subst HR
        go_wp2_with fail
        go_ret2
        exact ⟨none, 0, rfl, row_none _, HB2.out.trans (HB1.out.mono (by omega))⟩
      · rw [if_neg hL0] at HR
        subst HR
        have hneI : ((L.length : Int) == 0) = false := by rw [beq_eq_false_iff_ne]; omega
        generalize hLn : L.length = Ln at *
        have HLn := Lib.hid hLn
        clear hLn
        go_wp2_with fail
        with_reducible refine HCl.out.mono ?_
        rintro e w3 ⟨a', c', rfl, hrow, hb3⟩
        go_wp2_with fail
        go_ret2
        exact ⟨a', c', by rw [HLn.out]; rfl, hrow, (HB2.out.trans (HB1.out.mono (by omega))).trans (hb3.mono (by have := HB2.out.size; omega))⟩

set_option maxHeartbeats 8000000 in
set_option maxRecDepth 1000000 in
theorem fate_real : FateSpec := by
  intro P v s n w r hP hr
  obtain ⟨za, zc, fa, fc, da, dc⟩ := v
  obtain ⟨hzs, ⟨zs, hz⟩, hdr⟩ := hP
  simp only [Pv.val, Ad.v]
  dsimp only at hz
  have hzl := hz.1
  have HZ := Lib.hid hz
  clear hz hzs hdr
  obtain ⟨o1, ho1⟩ : ∃ o1 : Obj, o1 = .cells #[.slice za P.zones.length zc, .slice fa P.fates.length fc, .int .i64 P.ticks, .slice da P.drops.length dc] 26 := ⟨_, rfl⟩
  obtain ⟨o2, ho2⟩ : ∃ o2 : Obj, o2 = .cells #[.int .i8 s.f, .int .u16 s.g0, .int .u16 s.g1, .int .u16 s.g2, .int .u16 s.g3, .int .u16 s.g4, .int .u16 s.g5, .int .u16 s.g6, .int .u16 s.g7, .int .i64 s.p] 31 := ⟨_, rfl⟩
  have HB2 := Lib.hid (below2 w o1 o2)
  have HI := Lib.hid (index_row s (w.heap.size + 1) 31 zs P.fates.length hzl.symm fa fc ((w.alloc o1).alloc o2) (by rw [(laid2 w o1 o2).2, ho2]) (HZ.out.2.1.below (below2 w o1 o2)))
  have hsame : idxI (fun z : Fv => decide (z.ad = s)) zs = idxI (fun z : Fo => decide (z.ad = s)) P.fates := idxI_same hzl (fun j x y hx hy => by rw [(HZ.out.2.2 j x y hx hy).1])
  rw [hsame] at HI
  have HL1 := Lib.hid (laid2 w o1 o2).1
  rw [ho1, ho2] at HI HB2
  rw [ho1] at HL1
  rw [ho2] at HL1
  clear hsame
  obtain ⟨W2, hW2⟩ : ∃ W2, W2 = (w.alloc (.cells #[.slice za P.zones.length zc, .slice fa P.fates.length fc, .int .i64 P.ticks, .slice da P.drops.length dc] 26)).alloc (.cells #[.int .i8 s.f, .int .u16 s.g0, .int .u16 s.g1, .int .u16 s.g2, .int .u16 s.g3, .int .u16 s.g4, .int .u16 s.g5, .int .u16 s.g6, .int .u16 s.g7, .int .i64 s.p] 31) := ⟨_, rfl⟩
  rw [← hW2] at HI HB2 HL1
  have HN2 : W2.heap.size = w.heap.size + 2 := by rw [hW2]; simp
  clear ho1 ho2
  go_enter Try.func10, Try.ntmps10
  go_upto_region 1 with fail
  rw [← hW2]
  have HW2 := Lib.hid hW2
  clear hW2
  obtain ⟨⟨x0, x1, x2, x3⟩, _⟩ := box4 HL1.out
  go_wp2_with fail
  with_reducible refine HI.out.mono ?_
  rintro e w1 ⟨rfl, hb1⟩
  have HB1 := Lib.hid hb1
  have hb1s := hb1.size
  have HL := Lib.hid ((hb1.block w.heap.size (by omega)).trans HL1.out)
  clear hb1 HI x0 x1 x2 x3 HL1
  obtain ⟨⟨x0, x1, x2, x3⟩, _⟩ := box4 HL.out
  rcases idx_cases (fun z : Fo => decide (z.ad = s)) P.fates with ⟨h1, h2⟩ | ⟨k, z, h1, h2, h3⟩
  · rw [h1]
    obtain rfl : r = 1 := by rw [hr]; unfold fateP rowOf; rw [h2]
    clear h1 h2 hr
    go_wp2_with fail
    go_ret
    exact ⟨rfl, HB2.out.trans (HB1.out.mono (by omega))⟩
  · rw [h1]
    obtain ⟨x, g, o, hx, rfl, hg, hat, hPz⟩ := (HZ.out.below foP_steady (HB2.out.trans (HB1.out.mono (by omega)))).get h2
    have y10 := FK.last hat hx
    obtain ⟨hnm, hal, hrow⟩ := hPz
    have hkz : k < P.fates.length := (List.getElem?_eq_some_iff.1 h2).1
    have HA := Lib.hid hrow
    have hr' : r = (z.l[nthI n z.l.length]?).getD 1 := by rw [hr]; unfold fateP rowOf; rw [h3]
    clear hat hrow h1 h3 h2 hx hnm hr
    by_cases h0 : z.l.length = 0
    · obtain rfl : r = 1 := by
        have : z.l = [] := List.length_eq_zero_iff.1 h0
        rw [hr', this]; rfl
      rw [h0] at hal
      rw [hal] at y10
      clear hr'
      have HT := Lib.hid (nth_fate_none n x.h.a x.h.c w1)
      go_wp2_with fail
      with_reducible refine HT.out.mono ?_
      rintro e w2 ⟨rfl, rfl⟩
      go_wp2_with fail
      go_ret
      exact ⟨rfl, HB2.out.trans (HB1.out.mono (by omega))⟩
    · have hnth : nthI n z.l.length < z.l.length := by unfold nthI; omega
      obtain ⟨l, hl⟩ : ∃ l, z.l[nthI n z.l.length]? = some l := ⟨_, List.getElem?_eq_getElem hnth⟩
      have HT := Lib.hid (nth_fate n z.l l x.h.a x.h.c w1 HA.out hl)
      rw [hl] at hr'
      obtain rfl : r = l := hr'
      rw [hal] at y10
      clear hl hnth hal
      go_wp2_with fail
      with_reducible refine HT.out.mono ?_
      rintro e w2 ⟨rfl, rfl⟩
      go_wp2_with fail
      go_ret
      exact ⟨rfl, HB2.out.trans (HB1.out.mono (by omega))⟩
end Go.Proofs.Ytlceeeajhejedaa
