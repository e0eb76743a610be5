/- A plan in memory of its own, at each depth. -/
import Derived.Test.YtciohjgcndgiaaaOwnA
import Derived.Test.YtciohjgcndgiaaaFind
set_option linter.unusedSimpArgs false
set_option linter.unusedVariables false
namespace Go.Proofs.Ytciohjgcndgiaaa
open Go.RowKit Go.Proofs.Ytciohjgcndgiaaa.Kind

set_option maxHeartbeats 40000000 in
set_option maxRecDepth 1000000 in
theorem own_plan (P : Pl) (v : Pv) (w : World) (hF : Fit P) (hP : PlanC w v P) :
    Calls Try.prog 22 #[v.val P] w fun e w' => ∃ u, e = .returned (Pv.val u P) ∧ PlanN (fun b => b < w.heap.size) w' u P ∧ Below w.heap.size w w' := by
  obtain ⟨za, zc, fa, fc, da, dc⟩ := v
  obtain ⟨⟨zs, hz⟩, ⟨fs, hf⟩, hd⟩ := hP
  dsimp only at hz hf hd
  have hzl := hz.1
  have hfl := hf.1
  have hz40 := hF.zones
  have hf100 := hF.fates
  have HFt := Lib.hid hF
  have HZ := Lib.hid hz
  have HFa := Lib.hid hf
  have HD := Lib.hid hd
  clear hz hf hd hF
  simp only [Pv.val]
  have hb := below2 w (.cells #[.slice za P.zones.length zc, .slice fa P.fates.length fc, .int .i64 P.ticks, .slice da P.drops.length dc] 26) (.cells #[.slice none 0 0, .slice none 0 0, .int .i64 0, .slice none 0 0] 26)
  have hL := laid2 w (.cells #[.slice za P.zones.length zc, .slice fa P.fates.length fc, .int .i64 P.ticks, .slice da P.drops.length dc] 26) (.cells #[.slice none 0 0, .slice none 0 0, .int .i64 0, .slice none 0 0] 26)
  go_enter Try.func22, Try.ntmps22
  go_upto_region 1 with fail
  obtain ⟨w1, hw1⟩ : ∃ X, X = (w.alloc (.cells #[.slice za P.zones.length zc, .slice fa P.fates.length fc, .int .i64 P.ticks, .slice da P.drops.length dc] 26)).alloc (.cells #[.slice none 0 0, .slice none 0 0, .int .i64 0, .slice none 0 0] 26) := ⟨_, rfl⟩
  have hsz1 : w1.heap.size = w.heap.size + 2 := by rw [hw1]; simp
  rw [← hw1] at hb hL ⊢
  clear hw1
  generalize hG1 : w.heap.size + 1 = r at *
  have HB := Lib.hid hb
  have Hp := Lib.hid hL.1
  have Hr := Lib.hid hL.2
  have HX := Lib.hid (cl_zones zs P.zones.length hzl.symm za zc w1 (HZ.out.2.1.below hb) (by rw [hzl]; show P.zones.length * 40 ≤ _; omega))
  obtain ⟨⟨x0, x1, x2, x3⟩, f0, f1, f2, f3⟩ := box4 hL.1
  clear hL hb
  go_wp2_with fail
  with_reducible refine HX.out.mono ?_
  rintro e w2 ⟨za1, zc1, rfl, hlo, hb2⟩
  clear x0 x1 x2 x3 f0 f1 f2 f3 HX
  replace Hp := Lib.hid ((hb2.block _ (lt_of_block Hp.out)).trans Hp.out)
  replace Hr := Lib.hid ((hb2.block _ (lt_of_block Hr.out)).trans Hr.out)
  replace HB := Lib.hid (HB.out.trans (hb2.mono HB.out.size))
  have Hlo := Lib.hid hlo
  have hs2 := hb2.size
  clear hb2 hlo
  obtain ⟨⟨x0, x1, x2, x3⟩, f0, f1, f2, f3⟩ := box4 Hp.out
  go_upto_region 2 with fail
  clear x0 x1 x2 x3 f0 f1 f2 f3
  obtain ⟨w3, hw3⟩ : ∃ X, X = w2.setCell ⟨w.heap.size, 0, none⟩ (.slice za1 P.zones.length zc1) := ⟨_, rfl⟩
  have hp3 : (w2.setCell ⟨w.heap.size, 0, none⟩ (.slice za1 P.zones.length zc1)).heap[w.heap.size]? = some (.cells #[.slice za1 P.zones.length zc1, .slice fa P.fates.length fc, .int .i64 P.ticks, .slice da P.drops.length dc] 26 (0, 0)) := set_at Hp.out 0 _
  have hr3 : (w2.setCell ⟨w.heap.size, 0, none⟩ (.slice za1 P.zones.length zc1)).heap[r]? = some (.cells #[.slice none 0 0, .slice none 0 0, .int .i64 0, .slice none 0 0] 26 (0, 0)) := (Below.heap_setCell _ _ _ _ (by dsimp only; omega)).trans Hr.out
  have hb3 := HB.out.setCell (p := ⟨w.heap.size, 0, none⟩) (Nat.le_refl _) (.slice za1 P.zones.length zc1)
  have hlo3 := Hlo.out.set (p := ⟨w.heap.size, 0, none⟩) (by dsimp only; omega) (.slice za1 P.zones.length zc1)
  rw [← hw3] at hp3 hr3 hb3 hlo3 ⊢
  clear hw3
  replace Hp := Lib.hid hp3
  replace Hr := Lib.hid hr3
  replace HB := Lib.hid hb3
  obtain ⟨l1, hl1⟩ : ∃ X, X = w1.heap.size := ⟨_, rfl⟩
  rw [← hl1] at hlo3 hsz1
  have HI0 := Lib.hid (half_new (P := ZoP) (N := fun b => b < l1) (L := P.zones) hlo3 hzl)
  generalize bkN za1 zc1 l1 = gz at HI0
  clear hp3 hr3 hb3 hlo3 Hlo hl1 hs2
  obtain ⟨⟨x0, x1, x2, x3⟩, f0, f1, f2, f3⟩ := box4 Hp.out
  go_upto_region 3 with fail
  clear x0 x1 x2 x3 f0 f1 f2 f3
  go_loopw [16] (fun u wr => ∃ (n : Nat) (hs : List Zv), u = .int .i64 n ∧ n ≤ P.zones.length ∧ Hid (HalfIn ZK ZoP (fun b => b < l1) l1 gz za1 zc1 P.zones zs wr n hs) ∧ Hid (wr.heap[w.heap.size]? = some (.cells #[.slice za1 P.zones.length zc1, .slice fa P.fates.length fc, .int .i64 P.ticks, .slice da P.drops.length dc] 26 (0, 0))) ∧ Hid (wr.heap[r]? = some (.cells #[.slice none 0 0, .slice none 0 0, .int .i64 0, .slice none 0 0] 26 (0, 0))) ∧ Hid (Below w.heap.size w wr)) (fun u _ => P.zones.length - (intOf u).toNat)
  case atStart => exact ⟨0, zs, rfl, by omega, HI0, Hp, Hr, HB⟩
  case round =>
    clear HI0 Hp Hr HB
    obtain ⟨n, hs, rfl, hn, HI, Hp, Hr, HB⟩ := hrel
    generalize wr = wo at *
    by_cases hlt : n < P.zones.length
    · have hnI : (n : Int) < (P.zones.length : Int) := by omega
      have hnw : IntKind.i64.wrap ((n : Int) + 1) = (n : Int) + 1 := by rw [IntKind.wrap_i64]; omega
      obtain ⟨z, hz⟩ : ∃ z, P.zones[n]? = some z := ⟨_, List.getElem?_eq_getElem hlt⟩
      obtain ⟨h0, hh0⟩ : ∃ x, zs[n]? = some x := ⟨_, List.getElem?_eq_getElem (by omega)⟩
      have hhs : hs[n]? = some h0 := (HI.out.old n (Nat.le_refl _)).trans hh0
      obtain ⟨hnm, hnl, ks0, hks⟩ := HZ.out.2.2 n h0 z hh0 hz
      have hzf := HFt.out.ans z (List.mem_of_getElem? hz)
      obtain ⟨g, o, hza, hgl, hat⟩ := HI.out.row.row.2.2.2 (by rw [HI.out.len]; omega)
      obtain ⟨c0, c1⟩ := ZK.two hat hhs
      obtain ⟨⟨x0, x1, x2, x3⟩, f0, f1, f2, f3⟩ := box4 Hp.out
      rw [hza] at x0
      have hksl := hks.1
      have hksb : ks0.length * HK.bytes ≤ 140737488355328 := by rw [hksl]; show z.ans.length * 24 ≤ _; omega
      have HX := Lib.hid (cl_anss ks0 h0.h.n (by rw [hnl, hksl]) h0.h.a h0.h.c wo ((hks.below ansP_steady HB.out).2.1) hksb)
      have HK0 := Lib.hid hks
      have HZz := Lib.hid hz
      have HHs := Lib.hid hhs
      have Hnm := Lib.hid hnm
      have Hzf := Lib.hid hzf
      rw [hnl] at c1 HX
      clear hz hh0 hhs hks hat hgl hksb hnm hzf
      go_wp2_with fail
      with_reducible refine HX.out.mono ?_
      rintro e w4 ⟨aa, ac, rfl, hlo, hb4⟩
      have HB4 := Lib.hid hb4
      have HIA := Lib.hid (half_new (P := AnsP) (N := fun b => b < wo.heap.size) (L := z.ans) hlo hksl)
      generalize bkN aa ac wo.heap.size = ga at HIA
      clear x0 x1 x2 x3 f0 f1 f2 f3 c0 c1 HX hlo hb4 hza
      have hml : (z.ans.length : Int) ≤ 60 := by have := Hzf.out.1; omega
      go_wp2_with fail
      go_loopw [28] (fun u wq => ∃ (k : Nat) (ks : List Hv), u = .int .i64 k ∧ k ≤ z.ans.length ∧ Hid (HalfIn HK AnsP (fun b => b < wo.heap.size) wo.heap.size ga aa ac z.ans ks0 wq k ks) ∧ Hid (Below wo.heap.size wo wq)) (fun u _ => z.ans.length - (intOf u).toNat)
      case atStart => exact ⟨0, ks0, rfl, by omega, HIA, HB4⟩
      case round =>
        clear HIA HB4
        obtain ⟨k, ks, rfl, hk, HA, HB4⟩ := hrel
        by_cases hkt : k < z.ans.length
        · have hkI : (k : Int) < (z.ans.length : Int) := by omega
          have hkw : IntKind.i64.wrap ((k : Int) + 1) = (k : Int) + 1 := by rw [IntKind.wrap_i64]; omega
          obtain ⟨b, hb⟩ : ∃ z', z.ans[k]? = some z' := ⟨_, List.getElem?_eq_getElem hkt⟩
          obtain ⟨x, hx⟩ : ∃ x, ks0[k]? = some x := ⟨_, List.getElem?_eq_getElem (by omega)⟩
          have hks : ks[k]? = some x := (HA.out.old k (Nat.le_refl _)).trans hx
          obtain ⟨hxn, hxr⟩ := HK0.out.2.2 k x b hx hb
          obtain ⟨g2, o2, haa, hgl, hat⟩ := HA.out.row.row.2.2.2 (by rw [HA.out.len]; omega)
          have c0 := HK.one hat hks
          have hbl := Hzf.out.2 b (List.mem_of_getElem? hb)
          have HX := Lib.hid (cl_ads b x.n hxn x.a x.c wr ((hxr.below HB.out).below (HB4.out)) (by show b.length * 32 ≤ _; omega))
          have HBb := Lib.hid hb
          have HKs := Lib.hid hks
          have Hxn := Lib.hid hxn
          rw [hxn] at c0 HX
          clear hb hx hks hxr hat hgl hbl hxn
          rw [haa]
          go_wp2_with fail
          with_reducible refine HX.out.mono ?_
          rintro e w5 ⟨xa, xc, rfl, hlo, hb5⟩
          have hA5 := HA.out.below hb5
          obtain ⟨g3, o3, h3, hg3, hg3l, hrow, hcell, hfz⟩ := HK.poke1 (y := ⟨xa, b.length, xc⟩) hA5.row HKs.out
          rw [haa] at h3
          injection h3 with h3
          injection h3 with h31 h32 h33
          subst h31 h32
          have hblk : g2 = ga := by
            have h := hA5.blk (by have := hA5.row.1; rw [hA5.len] at this; omega)
            rw [bk_some haa (by have := hA5.row.1; rw [hA5.len] at this; omega)] at h
            exact h
          have HA6 := Lib.hid (hA5.step (p := ⟨g2, o2 + k, none⟩) hkt hblk hrow (fun b' hb' => by
            rw [HBb.out] at hb'
            injection hb' with hb'
            subst hb'
            refine AnsP.firm rfl hlo (fun q hq hn => ?_)
            have := HB4.out.size
            rcases hn with hn | hn
            · omega
            · have := bk_lt (d := wo.heap.size) HA.out.row
              subst hn
              rw [← hblk] at hq
              have hgl : g2 < wr.heap.size := by
                obtain ⟨g4, o4, e4, hl4, _⟩ := HA.out.row.row.2.2.2 (by rw [HA.out.len]; omega)
                rw [haa] at e4
                injection e4 with e4
                injection e4 with e5 _ _
                omega
              omega))
          have HB6 := Lib.hid ((HB4.out.trans (hb5.mono HB4.out.size)).setCell (p := ⟨g2, o2 + k, none⟩) hg3 (.slice xa b.length xc))
          clear HX hlo hb5 hA5 hrow hg3 hg3l c0 hblk
          go_wp2_with fail
          rw [← haa]
          go_roundw
          case rel => exact ⟨k + 1, _, by go_num, by omega, HA6, HB6⟩
          case measure => simp [intOf]; omega
        · obtain rfl : k = z.ans.length := by omega
          have HAll := Lib.hid (HA.out.all (Nat.le_refl _) (fun b h hn => by omega))
          have hI5 := HI.out.below HB4.out
          obtain ⟨g, o, hza, hg3, hg3l, hrow, hcell, hfz⟩ := ZK.poke2 (y := ⟨aa, z.ans.length, ac⟩) hI5.row HHs.out
          have hblk : g = gz := by
            have h := hI5.blk (by have := hI5.row.1; rw [hI5.len] at this; omega)
            rw [bk_some hza (by have := hI5.row.1; rw [hI5.len] at this; omega)] at h
            exact h
          have hgwo : g < wo.heap.size := by
            obtain ⟨g4, o4, e4, hl4, _⟩ := HI.out.row.row.2.2.2 (by rw [HI.out.len]; omega)
            rw [hza] at e4
            injection e4 with e4
            injection e4 with e5 _ _
            omega
          have hrl := lt_of_block Hr.out
          have HI6 := Lib.hid (hI5.step (p := ⟨g, o + n * 2 + 1, none⟩) hlt hblk hrow (fun b' hb' => by
            rw [HZz.out] at hb'
            injection hb' with hb'
            subst hb'
            exact ZoP.firm Hnm.out rfl (HAll.out.less (fun q hq => by
              rcases hq with hq | hq
              · omega
              · omega))))
          have hp5 := (HB4.out.block _ (lt_of_block Hp.out)).trans Hp.out
          have hr5 := (HB4.out.block _ (lt_of_block Hr.out)).trans Hr.out
          have HB5 := Lib.hid ((HB.out.trans (HB4.out.mono HB.out.size)).setCell (p := ⟨g, o + n * 2 + 1, none⟩) (by dsimp only; omega) (.slice aa z.ans.length ac))
          have Hp6 := Lib.hid ((Below.heap_setCell wr ⟨g, o + n * 2 + 1, none⟩ (.slice aa z.ans.length ac) w.heap.size (by dsimp only; omega)).trans hp5)
          have Hr6 := Lib.hid ((Below.heap_setCell wr ⟨g, o + n * 2 + 1, none⟩ (.slice aa z.ans.length ac) r (by dsimp only; omega)).trans hr5)
          obtain ⟨⟨x0, x1, x2, x3⟩, f0, f1, f2, f3⟩ := box4 hp5
          rw [hza] at x0
          clear hI5 hrow hg3 hg3l hblk hgwo hrl hp5 hr5 hza HA HAll
          go_wp2_with fail
          go_roundw
          case rel => exact ⟨n + 1, _, by go_num, by omega, HI6, Hp6, Hr6, HB5⟩
          case measure => simp [intOf]; omega
    · obtain rfl : n = P.zones.length := by omega
      obtain ⟨l3, hl3⟩ : ∃ X, X = wo.heap.size := ⟨_, rfl⟩
      obtain ⟨hzs, hhzs⟩ : ∃ X, X = hs := ⟨_, rfl⟩
      rw [← hhzs] at HI
      have HAll := Lib.hid ((HI.out.all (Nat.le_refl _) (fun b h hn => by omega)).more (M := fun b => b < l1 ∨ l3 ≤ b) (fun b hb => by omega))
      have hrl := lt_of_block Hr.out
      clear HI
      have HX := Lib.hid (cl_fates fs P.fates.length hfl.symm fa fc wo (HFa.out.2.1.below HB.out) (by rw [hfl]; show P.fates.length * 56 ≤ _; omega))
      obtain ⟨⟨x0, x1, x2, x3⟩, f0, f1, f2, f3⟩ := box4 Hp.out
      go_wp2_with fail
      with_reducible refine HX.out.mono ?_
      rintro e w2 ⟨fa1, fc1, rfl, hlo, hb2⟩
      clear x0 x1 x2 x3 f0 f1 f2 f3 HX
      replace Hp := Lib.hid ((hb2.block _ (lt_of_block Hp.out)).trans Hp.out)
      replace Hr := Lib.hid ((hb2.block _ (lt_of_block Hr.out)).trans Hr.out)
      replace HB := Lib.hid (HB.out.trans (hb2.mono HB.out.size))
      replace HAll := Lib.hid (HAll.out.below hb2)
      have Hlo := Lib.hid hlo
      have hs2 := hb2.size
      clear hb2 hlo
      obtain ⟨⟨x0, x1, x2, x3⟩, f0, f1, f2, f3⟩ := box4 Hp.out
      go_upto_region 14 with fail
      clear x0 x1 x2 x3 f0 f1 f2 f3
      obtain ⟨w3, hw3⟩ : ∃ X, X = w2.setCell ⟨w.heap.size, 1, none⟩ (.slice fa1 P.fates.length fc1) := ⟨_, rfl⟩
      have hp3 : (w2.setCell ⟨w.heap.size, 1, none⟩ (.slice fa1 P.fates.length fc1)).heap[w.heap.size]? = some (.cells #[.slice za1 P.zones.length zc1, .slice fa1 P.fates.length fc1, .int .i64 P.ticks, .slice da P.drops.length dc] 26 (0, 0)) := set_at Hp.out 1 _
      have hr3 : (w2.setCell ⟨w.heap.size, 1, none⟩ (.slice fa1 P.fates.length fc1)).heap[r]? = some (.cells #[.slice none 0 0, .slice none 0 0, .int .i64 0, .slice none 0 0] 26 (0, 0)) := (Below.heap_setCell _ _ _ _ (by dsimp only; omega)).trans Hr.out
      have hb3 := HB.out.setCell (p := ⟨w.heap.size, 1, none⟩) (Nat.le_refl _) (.slice fa1 P.fates.length fc1)
      have hlo3 := Hlo.out.set (p := ⟨w.heap.size, 1, none⟩) (by dsimp only; omega) (.slice fa1 P.fates.length fc1)
      have hall3 := HAll.out.set (p := ⟨w.heap.size, 1, none⟩) (by dsimp only; omega) (.slice fa1 P.fates.length fc1)
      rw [← hw3] at hp3 hr3 hb3 hlo3 hall3 ⊢
      clear hw3
      replace Hp := Lib.hid hp3
      replace Hr := Lib.hid hr3
      replace HB := Lib.hid hb3
      replace HAll := Lib.hid hall3
      rw [← hl3] at hlo3
      have hl3r : r < l3 := by omega
      have HI0 := Lib.hid (half_new (P := FoP) (N := fun b => b < l3) (L := P.fates) hlo3 hfl)
      generalize bkN fa1 fc1 l3 = gf at HI0
      clear hp3 hr3 hb3 hlo3 hall3 Hlo hs2 hrl hl3
      obtain ⟨⟨x0, x1, x2, x3⟩, f0, f1, f2, f3⟩ := box4 Hp.out
      go_upto_region 15 with fail
      clear x0 x1 x2 x3 f0 f1 f2 f3
      go_loopw [53] (fun u wr => ∃ (n : Nat) (hs : List Fv), u = .int .i64 n ∧ n ≤ P.fates.length ∧ Hid (HalfIn FK FoP (fun b => b < l3) l3 gf fa1 fc1 P.fates fs wr n hs) ∧ Hid (Firm (fun b => b < l1 ∨ l3 ≤ b) wr (fun W => ZK.NestC ZoP W za1 zc1 hzs P.zones)) ∧ Hid (wr.heap[w.heap.size]? = some (.cells #[.slice za1 P.zones.length zc1, .slice fa1 P.fates.length fc1, .int .i64 P.ticks, .slice da P.drops.length dc] 26 (0, 0))) ∧ Hid (wr.heap[r]? = some (.cells #[.slice none 0 0, .slice none 0 0, .int .i64 0, .slice none 0 0] 26 (0, 0))) ∧ Hid (Below w.heap.size w wr)) (fun u _ => P.fates.length - (intOf u).toNat)
      case atStart => exact ⟨0, fs, rfl, by omega, HI0, HAll, Hp, Hr, HB⟩
      case round =>
        clear HI0 HAll Hp Hr HB
        obtain ⟨n, hs, rfl, hn, HI, HAll, Hp, Hr, HB⟩ := hrel
        generalize wr = wq at *
        by_cases hlt : n < P.fates.length
        · have hnI : (n : Int) < (P.fates.length : Int) := by omega
          have hnw : IntKind.i64.wrap ((n : Int) + 1) = (n : Int) + 1 := by rw [IntKind.wrap_i64]; omega
          obtain ⟨z, hz⟩ : ∃ z, P.fates[n]? = some z := ⟨_, List.getElem?_eq_getElem hlt⟩
          obtain ⟨x, hx⟩ : ∃ x, fs[n]? = some x := ⟨_, List.getElem?_eq_getElem (by omega)⟩
          have hhs : hs[n]? = some x := (HI.out.old n (Nat.le_refl _)).trans hx
          obtain ⟨had, hxn, hxr⟩ := HFa.out.2.2 n x z hx hz
          obtain ⟨g, o, hfa, hgl, hat⟩ := HI.out.row.row.2.2.2 (by rw [HI.out.len]; omega)
          obtain ⟨⟨y0, y1, y2, y3, y4, y5⟩, y6, y7, y8, y9, y10⟩ := FK.row11C hat hhs
          have hzl := HFt.out.lists z (List.mem_of_getElem? hz)
          have HXr := Lib.hid (hxr.below HB.out)
          have HAd := Lib.hid had
          have HZz := Lib.hid hz
          have HHs := Lib.hid hhs
          have Hxn := Lib.hid hxn
          have Hfa := Lib.hid hfa
          have Hzl := Lib.hid hzl
          rw [hxn] at y10
          clear hz hx hhs had hxr hat hxn hzl
          rw [hfa]
          go_upto_region 17 with fail
          clear y0 y1 y2 y3 y4 y5 y6 y7 y8 y9 y10
          have hbA := below1 wq (.cells #[.int .i8 x.ad.f, .int .u16 x.ad.g0, .int .u16 x.ad.g1, .int .u16 x.ad.g2, .int .u16 x.ad.g3, .int .u16 x.ad.g4, .int .u16 x.ad.g5, .int .u16 x.ad.g6, .int .u16 x.ad.g7, .int .i64 x.ad.p, .slice x.h.a z.l.length x.h.c] 74)
          have hlA := laid1 wq (.cells #[.int .i8 x.ad.f, .int .u16 x.ad.g0, .int .u16 x.ad.g1, .int .u16 x.ad.g2, .int .u16 x.ad.g3, .int .u16 x.ad.g4, .int .u16 x.ad.g5, .int .u16 x.ad.g6, .int .u16 x.ad.g7, .int .i64 x.ad.p, .slice x.h.a z.l.length x.h.c] 74)
          obtain ⟨w4, hw4⟩ : ∃ X, X = wq.alloc (.cells #[.int .i8 x.ad.f, .int .u16 x.ad.g0, .int .u16 x.ad.g1, .int .u16 x.ad.g2, .int .u16 x.ad.g3, .int .u16 x.ad.g4, .int .u16 x.ad.g5, .int .u16 x.ad.g6, .int .u16 x.ad.g7, .int .i64 x.ad.p, .slice x.h.a z.l.length x.h.c] 74) := ⟨_, rfl⟩
          rw [← hw4] at hbA hlA ⊢
          have hsz4 : wq.heap.size < w4.heap.size := by rw [hw4]; simp
          clear hw4
          generalize hgy : wq.heap.size = gy at hlA hsz4
          have HI4 := Lib.hid (HI.out.below hbA)
          have HXr4 := Lib.hid (HXr.out.below hbA)
          have HB4 := Lib.hid hbA
          have hp4 := (hbA.block _ (lt_of_block Hp.out)).trans Hp.out
          have hg4 : g < w4.heap.size := Nat.lt_of_lt_of_le hgl hbA.size
          obtain ⟨g9, o9, h9, _, _, _, hc9, hf9⟩ := FK.poke11 (y := x.h) HI4.out.row HHs.out
          rw [Hfa.out] at h9
          injection h9 with h9
          injection h9 with h91 h92 h93
          subst h91 h92
          rw [Hxn.out] at hc9
          have HSB := Lib.hid (show ∀ W : World, Below w4.heap.size w4 W → (W.cell? ⟨w.heap.size, 1, none⟩ = some (.slice (some ⟨g, o, none⟩) P.fates.length fc1) ∧ W.cell? ⟨gy, 10, none⟩ = some (.slice x.h.a z.l.length x.h.c) ∧ W.cell? ⟨g, o + n * 11 + 10, none⟩ = some (.slice x.h.a z.l.length x.h.c) ∧ W.frozen? ⟨g, o + n * 11 + 10, none⟩ = false) ∧ Below w4.heap.size w4 W from fun W h =>
            ⟨⟨by rw [← Hfa.out]; exact (box4 ((h.block _ (lt_of_block hp4)).trans hp4)).1.2.1, (h.cell (p := ⟨gy, 10, none⟩) hsz4).trans (by simp [World.cell?, hlA]), (h.cell (p := ⟨g, o + n * 11 + 10, none⟩) hg4).trans hc9, (h.frozen (p := ⟨g, o + n * 11 + 10, none⟩) hg4).trans hf9⟩, h⟩)
          have HC := Lib.hid (fun W (h : Below w4.heap.size w4 W) => cl_i8s z.l z.l.length rfl x.h.a x.h.c W (HXr4.out.below h) (by show z.l.length * 1 ≤ _; have := Hzl.out; omega))
          clear hbA hlA hp4 hc9 hf9
          obtain ⟨⟨s1, s2, s3, s4⟩, _⟩ := HSB.out w4 (Below.refl _ _)
          go_region_law (first | (go_simp; go_at_call 51; (with_reducible refine (HC.out _ (by first | exact Below.refl _ _ | exact (Below.refl _ _).drew | exact (Below.refl _ _).drew.drew)).mono ?_); rintro e wC ⟨ca, cc, rfl, hlo, hbC⟩; obtain ⟨⟨t1, t2, t3, t4⟩, hBC⟩ := HSB.out wC ⟨hbC.os, hbC.tape, hbC.output, hbC.size, hbC.block⟩))
          all_goals
            have hsC : w4.heap.size ≤ wC.heap.size := hBC.size
            have hI5 := HI4.out.below hBC
            obtain ⟨g8, o8, h8, hg3, hg3l, hrow, _, _⟩ := FK.poke11 (y := ⟨ca, z.l.length, cc⟩) hI5.row HHs.out
            rw [Hfa.out] at h8
            injection h8 with h8
            injection h8 with h81 h82 h83
            subst h81 h82
            have hblk : g = gf := by
              have h := hI5.blk (by have := hI5.row.1; rw [hI5.len] at this; omega)
              rw [bk_some Hfa.out (by have := hI5.row.1; rw [hI5.len] at this; omega)] at h
              exact h
            have hszw := HB4.out.size
            have HI6 := Lib.hid (hI5.step (p := ⟨g, o + n * 11 + 10, none⟩) hlt hblk hrow (fun b' hb' => by
              rw [HZz.out] at hb'
              injection hb' with hb'
              subst hb'
              refine FoP.firm HAd.out rfl (show JK.Loose wC w4.heap.size ca cc z.l from hlo) (fun q hq hn => ?_)
              have hgq : g < w4.heap.size := hg4
              have h3w : l3 ≤ wq.heap.size := by
                have := HI.out.row.2.2.2 (by have := HI.out.row.1; rw [HI.out.len] at this; omega)
                obtain ⟨g7, o7, _, hh1, hh2, _⟩ := this
                omega
              omega))
            have hrl := lt_of_block Hr.out
            have hpl := lt_of_block Hp.out
            have HAll6 := Lib.hid (((HAll.out.below HB4.out).below hBC).set (p := ⟨g, o + n * 11 + 10, none⟩) (.inr hg3) (.slice ca z.l.length cc))
            have Hp6 := Lib.hid ((Below.heap_setCell wC ⟨g, o + n * 11 + 10, none⟩ (.slice ca z.l.length cc) w.heap.size (by dsimp only; omega)).trans ((hBC.block _ (by omega)).trans ((HB4.out.block _ hpl).trans Hp.out)))
            have Hr6 := Lib.hid ((Below.heap_setCell wC ⟨g, o + n * 11 + 10, none⟩ (.slice ca z.l.length cc) r (by dsimp only; omega)).trans ((hBC.block _ (by omega)).trans ((HB4.out.block _ hrl).trans Hr.out)))
            have hbs := HB.out.size
            have HB6 := Lib.hid ((HB.out.trans ((HB4.out.trans (hBC.mono hszw)).mono hbs)).setCell (p := ⟨g, o + n * 11 + 10, none⟩) (by dsimp only; omega) (.slice ca z.l.length cc))
            clear hBC hI5 hrow hg3 hg3l hblk hlo hbC hrl hpl hbs s1 s2 s3 s4 t1 t2 t3 t4
            go_wp2_with fail
            rw [← Hfa.out]
            go_roundw
            case rel => exact ⟨n + 1, _, by go_num, by omega, HI6, HAll6, Hp6, Hr6, HB6⟩
            case measure => simp [intOf]; omega
        · obtain rfl : n = P.fates.length := by omega
          have HFs := Lib.hid (HI.out.all (Nat.le_refl _) (fun b h hn => by omega))
          obtain ⟨l5, hl5⟩ : ∃ X, X = wq.heap.size := ⟨_, rfl⟩
          have hrl := lt_of_block Hr.out
          have HX := Lib.hid (cl_ints P.drops P.drops.length rfl da dc wq (HD.out.below HB.out) (by show P.drops.length * 8 ≤ _; have := HFt.out.drops; omega))
          obtain ⟨⟨x0, x1, x2, x3⟩, f0, f1, f2, f3⟩ := box4 Hp.out
          clear HI
          go_wp2_with fail
          with_reducible refine HX.out.mono ?_
          rintro e w2 ⟨da1, dc1, rfl, hlo, hb2⟩
          clear x0 x1 x2 x3 f0 f1 f2 f3 HX
          rw [← hl5] at hlo hrl
          replace Hp := Lib.hid ((hb2.block _ (lt_of_block Hp.out)).trans Hp.out)
          replace Hr := Lib.hid ((hb2.block _ (lt_of_block Hr.out)).trans Hr.out)
          replace HB := Lib.hid (HB.out.trans (hb2.mono HB.out.size))
          replace HAll := Lib.hid (HAll.out.below hb2)
          replace HFs := Lib.hid (HFs.out.below hb2)
          have HDs := Lib.hid (Kind.OffC.firm (hlo.off (N := fun b => b < l5) (fun b h1 _ _ hn => by omega)))
          clear hb2 hlo
          obtain ⟨⟨x0, x1, x2, x3⟩, f0, f1, f2, f3⟩ := box4 Hp.out
          go_upto_region 20 with fail
          clear x0 x1 x2 x3 f0 f1 f2 f3
          obtain ⟨w3, hw3⟩ : ∃ X, X = w2.setCell ⟨w.heap.size, 3, none⟩ (.slice da1 P.drops.length dc1) := ⟨_, rfl⟩
          have hp3 : (w2.setCell ⟨w.heap.size, 3, none⟩ (.slice da1 P.drops.length dc1)).heap[w.heap.size]? = some (.cells #[.slice za1 P.zones.length zc1, .slice fa1 P.fates.length fc1, .int .i64 P.ticks, .slice da1 P.drops.length dc1] 26 (0, 0)) := set_at Hp.out 3 _
          have hr3 : (w2.setCell ⟨w.heap.size, 3, none⟩ (.slice da1 P.drops.length dc1)).heap[r]? = some (.cells #[.slice none 0 0, .slice none 0 0, .int .i64 0, .slice none 0 0] 26 (0, 0)) := (Below.heap_setCell _ _ _ _ (by dsimp only; omega)).trans Hr.out
          have hb3 := HB.out.setCell (p := ⟨w.heap.size, 3, none⟩) (Nat.le_refl _) (.slice da1 P.drops.length dc1)
          have ha3 := HAll.out.set (p := ⟨w.heap.size, 3, none⟩) (by dsimp only; omega) (.slice da1 P.drops.length dc1)
          have hfs3 := HFs.out.set (p := ⟨w.heap.size, 3, none⟩) (by dsimp only; omega) (.slice da1 P.drops.length dc1)
          have hds3 := HDs.out.set (p := ⟨w.heap.size, 3, none⟩) (by dsimp only; omega) (.slice da1 P.drops.length dc1)
          rw [← hw3] at hp3 hr3 hb3 ha3 hfs3 hds3 ⊢
          clear hw3
          replace Hp := Lib.hid hp3
          replace Hr := Lib.hid hr3
          replace HB := Lib.hid hb3
          replace HAll := Lib.hid ha3
          replace HFs := Lib.hid hfs3
          replace HDs := Lib.hid hds3
          clear hp3 hr3 hb3 ha3 hfs3 hds3
          obtain ⟨⟨x0, x1, x2, x3⟩, f0, f1, f2, f3⟩ := box4 Hp.out
          obtain ⟨⟨y0, y1, y2, y3⟩, g0, g1, g2, g3⟩ := box4 Hr.out
          go_wp2_with fail
          have hr1 : r < l1 ∨ l3 ≤ r := by omega
          have hr2 : r < l3 := by omega
          have hr3 : r < l5 := by omega
          have hr4 : w.heap.size ≤ r := by omega
          have hz0 : (w3.setCell ⟨r, 0, none⟩ (.slice za1 P.zones.length zc1)).heap[r]? = some (.cells #[.slice za1 P.zones.length zc1, .slice none 0 0, .int .i64 0, .slice none 0 0] 26 (0, 0)) := set_at Hr.out 0 _
          have hz1 : ((w3.setCell ⟨r, 0, none⟩ (.slice za1 P.zones.length zc1)).setCell ⟨r, 1, none⟩ (.slice fa1 P.fates.length fc1)).heap[r]? = some (.cells #[.slice za1 P.zones.length zc1, .slice fa1 P.fates.length fc1, .int .i64 0, .slice none 0 0] 26 (0, 0)) := set_at hz0 1 _
          have hz2 : (((w3.setCell ⟨r, 0, none⟩ (.slice za1 P.zones.length zc1)).setCell ⟨r, 1, none⟩ (.slice fa1 P.fates.length fc1)).setCell ⟨r, 2, none⟩ (.int .i64 P.ticks)).heap[r]? = some (.cells #[.slice za1 P.zones.length zc1, .slice fa1 P.fates.length fc1, .int .i64 P.ticks, .slice none 0 0] 26 (0, 0)) := set_at hz1 2 _
          have hz3 : ((((w3.setCell ⟨r, 0, none⟩ (.slice za1 P.zones.length zc1)).setCell ⟨r, 1, none⟩ (.slice fa1 P.fates.length fc1)).setCell ⟨r, 2, none⟩ (.int .i64 P.ticks)).setCell ⟨r, 3, none⟩ (.slice da1 P.drops.length dc1)).heap[r]? = some (.cells #[.slice za1 P.zones.length zc1, .slice fa1 P.fates.length fc1, .int .i64 P.ticks, .slice da1 P.drops.length dc1] 26 (0, 0)) := set_at hz2 3 _
          refine bodyPost_ret (res_cell rfl _ _ _ r rfl _ (loadP hz3)) rfl ?_
          have ha4 := ((((HAll.out.set (p := ⟨r, 0, none⟩) (by first | exact hr1 | exact hr2 | exact hr3) (.slice za1 P.zones.length zc1)).set (p := ⟨r, 1, none⟩) (by first | exact hr1 | exact hr2 | exact hr3) (.slice fa1 P.fates.length fc1)).set (p := ⟨r, 2, none⟩) (by first | exact hr1 | exact hr2 | exact hr3) (.int .i64 P.ticks)).set (p := ⟨r, 3, none⟩) (by first | exact hr1 | exact hr2 | exact hr3) (.slice da1 P.drops.length dc1))
          have hf4 := ((((HFs.out.set (p := ⟨r, 0, none⟩) (by first | exact hr1 | exact hr2 | exact hr3) (.slice za1 P.zones.length zc1)).set (p := ⟨r, 1, none⟩) (by first | exact hr1 | exact hr2 | exact hr3) (.slice fa1 P.fates.length fc1)).set (p := ⟨r, 2, none⟩) (by first | exact hr1 | exact hr2 | exact hr3) (.int .i64 P.ticks)).set (p := ⟨r, 3, none⟩) (by first | exact hr1 | exact hr2 | exact hr3) (.slice da1 P.drops.length dc1))
          have hd4 := ((((HDs.out.set (p := ⟨r, 0, none⟩) (by first | exact hr1 | exact hr2 | exact hr3) (.slice za1 P.zones.length zc1)).set (p := ⟨r, 1, none⟩) (by first | exact hr1 | exact hr2 | exact hr3) (.slice fa1 P.fates.length fc1)).set (p := ⟨r, 2, none⟩) (by first | exact hr1 | exact hr2 | exact hr3) (.int .i64 P.ticks)).set (p := ⟨r, 3, none⟩) (by first | exact hr1 | exact hr2 | exact hr3) (.slice da1 P.drops.length dc1))
          exact ⟨⟨za1, zc1, fa1, fc1, da1, dc1⟩, rfl, fun w9 h9 => ⟨⟨hzs, ha4 w9 (h9.less (fun b hb => .inl (.inl (by omega))))⟩, ⟨_, hf4 w9 (h9.less (fun b hb => .inl (by omega)))⟩, hd4 w9 (h9.less (fun b hb => .inl (by omega)))⟩, ((((HB.out.setCell (p := ⟨r, 0, none⟩) hr4 (.slice za1 P.zones.length zc1)).setCell (p := ⟨r, 1, none⟩) hr4 (.slice fa1 P.fates.length fc1)).setCell (p := ⟨r, 2, none⟩) hr4 (.int .i64 P.ticks)).setCell (p := ⟨r, 3, none⟩) hr4 (.slice da1 P.drops.length dc1))⟩
end Go.Proofs.Ytciohjgcndgiaaa
