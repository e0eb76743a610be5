/- New worlds, by the document's own answer. -/
import Derived.Test.YtciohjgcndgiaaaGreatSpecs
import Derived.Test.YtciohjgcndgiaaaGreatBoxes
set_option linter.unusedSimpArgs false
set_option linter.unusedVariables false
namespace Go.Proofs.YtciohjgcndgiaaaGreat
open Go.RowKit Go.Proofs.YtciohjgcndgiaaaGreat.Kind

/-- Whether a plan may be, by the document's own answer. -/
def RefCheckSpec (R : Rules) : Prop := ∀ (P : Pl) (v : Pv) (w : World) (r : Int), Few P → PlanC w v P → r = (if checkB R P = true then 0 else 90) →
  Calls Tryz.prog 23 #[v.val P] w (RetI w r)
set_option maxHeartbeats 8000000 in
set_option maxRecDepth 1000000 in
theorem ref_new (N : Nat → Prop) (R : Rules) (HC : RefCheckSpec R) (P : Pl) (v : Pv) (w : World) (B : Wo) (r : Int) (hf : Few P) (hP : PlanN N w v P) (hB : B = newP R P) (hr : r = newE R P) :
    Calls Tryz.prog 8 #[v.val P] w (RetW N w B r) := by
  have HPN := Lib.hid hP
  replace hP := hP.now
  have HP := Lib.hid hP
  obtain ⟨rc, hrc⟩ : ∃ rc : Int, rc = (if checkB R P = true then 0 else 90) := ⟨_, rfl⟩
  have HCk := Lib.hid (fun w h => HC P v w rc hf h hrc)
  clear hP HC
  have HX0 := Lib.hid (show ∀ a : Obj, PlanC (w.alloc a) v P from fun a => HP.out.below (below1 w a))
  obtain ⟨za, zc, fa, fc, da, dc⟩ := v
  simp only [Pv.val] at HCk ⊢
  have hb := below2 w (.cells #[.slice za P.zones.length zc, .slice fa P.fates.length fc, .int .i64 P.ticks, .slice da P.drops.length dc] 26) (.cells #[.slice none 0 0, .slice none 0 0, .int .i64 0, .slice none 0 0, .int .i64 0, .slice none 0 0, .slice none 0 0, .slice none 0 0, .int .i64 0, .slice none 0 0] 32)
  have hL := laid2 w (.cells #[.slice za P.zones.length zc, .slice fa P.fates.length fc, .int .i64 P.ticks, .slice da P.drops.length dc] 26) (.cells #[.slice none 0 0, .slice none 0 0, .int .i64 0, .slice none 0 0, .int .i64 0, .slice none 0 0, .slice none 0 0, .slice none 0 0, .int .i64 0, .slice none 0 0] 32)
  go_enter Tryz.func8, Tryz.ntmps8
  go_upto_region 1 with fail
  obtain ⟨w1, hw1⟩ : ∃ w1, w1 = (w.alloc (.cells #[.slice za P.zones.length zc, .slice fa P.fates.length fc, .int .i64 P.ticks, .slice da P.drops.length dc] 26)).alloc (.cells #[.slice none 0 0, .slice none 0 0, .int .i64 0, .slice none 0 0, .int .i64 0, .slice none 0 0, .slice none 0 0, .slice none 0 0, .int .i64 0, .slice none 0 0] 32) := ⟨_, rfl⟩
  have hSZ : w1.heap.size = w.heap.size + 2 := by rw [hw1]; simp
  rw [← hw1] at hb hL ⊢
  clear hw1
  generalize hG1 : w.heap.size + 1 = G1 at *
  have HX := Lib.hid (HCk.out w1 (HP.out.below hb))
  have HL := Lib.hid hL
  have HB1 := Lib.hid hb
  obtain ⟨⟨x0, x1, x2, x3⟩, _⟩ := box4 HL.out.1
  clear hb hL HCk HX0
  go_wp2_with fail
  with_reducible refine HX.out.mono ?_
  rintro e w2 ⟨rfl, hb⟩
  have hq := (hb.block _ (lt_of_block HL.out.1)).trans HL.out.1
  have hz := (hb.block _ (lt_of_block HL.out.2)).trans HL.out.2
  have HBW := Lib.hid (HB1.out.trans (hb.mono HB1.out.size))
  clear x0 x1 x2 x3 HX hb HL HB1
  obtain ⟨⟨x0, x1, x2, x3⟩, _⟩ := box4 hq
  obtain ⟨⟨y0, y1, y2, y3, y4, y5, y6, y7, y8, y9⟩, g0, g1, g2, g3, g4, g5, g6, g7, g8, g9⟩ := boxes10 hz
  have HZ := Lib.hid hz
  have hg1 : w.heap.size ≤ G1 := by omega
  clear hq hz
  by_cases hck : checkB R P = true
  · obtain rfl : rc = 0 := by rw [hrc, if_pos hck]
    obtain rfl : r = 0 := by rw [hr]; unfold newE; rw [if_pos hck]
    obtain rfl : B = Wo.new P := by rw [hB]; unfold newP; rw [if_pos hck]
    clear hrc hr hB
    go_wp2_with fail
    have hz2 := set10_at HZ.out (.slice za P.zones.length zc) (.slice fa P.fates.length fc) (.int .i64 P.ticks) (.slice da P.drops.length dc) (.int .i64 0) (.slice none 0 0) (.slice none 0 0) (.slice none 0 0) (.int .i64 0) (.slice none 0 0)
    have hb2 := set10_below HBW.out hg1 (.slice za P.zones.length zc) (.slice fa P.fates.length fc) (.int .i64 P.ticks) (.slice da P.drops.length dc) (.int .i64 0) (.slice none 0 0) (.slice none 0 0) (.slice none 0 0) (.int .i64 0) (.slice none 0 0)
    refine bodyPost_ret (res_cell_tmp rfl _ _ _ G1 rfl _ (loadW (v := Wv.bare ⟨za, zc, fa, fc, da, dc⟩) (A := Wo.new P) hz2)) rfl ?_
    exact ⟨Wv.bare ⟨za, zc, fa, fc, da, dc⟩, rfl, flat_bare (HPN.out.below hb2), hb2⟩
  · obtain rfl : rc = 90 := by rw [hrc, if_neg hck]
    obtain rfl : r = 90 := by rw [hr]; unfold newE; rw [if_neg hck]
    obtain rfl : B = Wo.new Pl.zero := by rw [hB]; unfold newP; rw [if_neg hck]
    clear hrc hr hB
    go_wp2_with fail
    have hz2 := set10_at HZ.out (.slice none 0 0) (.slice none 0 0) (.int .i64 0) (.slice none 0 0) (.int .i64 0) (.slice none 0 0) (.slice none 0 0) (.slice none 0 0) (.int .i64 0) (.slice none 0 0)
    have hb2 := set10_below HBW.out hg1 (.slice none 0 0) (.slice none 0 0) (.int .i64 0) (.slice none 0 0) (.int .i64 0) (.slice none 0 0) (.slice none 0 0) (.slice none 0 0) (.int .i64 0) (.slice none 0 0)
    refine bodyPost_ret (res_cell_tmp rfl _ _ _ G1 rfl _ (loadW (v := Wv.bare Pv.bare) (A := Wo.new Pl.zero) hz2)) rfl ?_
    exact ⟨Wv.bare Pv.bare, rfl, flat_bare (fun w' _ => plan_bare w'), hb2⟩
end Go.Proofs.YtciohjgcndgiaaaGreat

set_option linter.unusedSimpArgs false
set_option linter.unusedVariables false
namespace Go.Proofs.YtciohjgcndgiaaaGreat
open Go.RowKit Go.Proofs.YtciohjgcndgiaaaGreat.Kind

set_option maxHeartbeats 8000000 in
set_option maxRecDepth 1000000 in
theorem ref_tick (N : Nat → Prop) (A : Wo) (v : Wv) (w : World) (B : Wo) (r : Int) (hR : Room A) (hA : FlatN N w v A) (hB : B = tickP A) (hr : r = tickE A) :
    Calls Tryz.prog 11 #[v.val A] w (RetW N w B r) := by
  have HA := Lib.hid hA
  have hck := hR.clock
  have htk := hR.ticks
  clear hA hR
  simp only [Wv.val, Wv.cells]
  by_cases h : A.plan.ticks ≤ A.clock
  · obtain rfl : B = A := by rw [hB]; unfold tickP; rw [if_pos h]
    obtain rfl : r = 70 := by rw [hr]; unfold tickE; rw [if_pos h]
    clear hB hr
    go_enter Tryz.func11, Tryz.ntmps11
    go_wp2_with fail
    refine bodyPost_ret (res_cell_tmp rfl _ _ _ (w.heap.size + 1) rfl _ (loadW (v := v) (laid2 w _ _).2)) rfl ?_
    exact ⟨v, rfl, HA.out.below (below2 w _ _), below2 w _ _⟩
  · obtain rfl : r = 0 := by rw [hr]; unfold tickE; rw [if_neg h]
    have h' : A.clock < A.plan.ticks := by omega
    have hw : IntKind.i64.wrap (A.clock + 1) = A.clock + 1 := by rw [IntKind.wrap_i64]; omega
    have HBE := Lib.hid (show B = { A with clock := A.clock + 1 } by rw [hB]; unfold tickP; rw [if_neg h])
    clear hB hr h
    go_enter Tryz.func11, Tryz.ntmps11
    go_wp2_with fail
    obtain rfl := HBE.out
    refine bodyPost_ret (res_cell_tmp rfl _ _ _ (w.heap.size + 1) rfl _ (loadW (v := v) (A := { A with clock := A.clock + 1 }) (laid2 w _ _).2)) rfl ?_
    have hb := below2 w (.cells #[.slice v.p.za A.plan.zones.length v.p.zc, .slice v.p.fa A.plan.fates.length v.p.fc, .int .i64 A.plan.ticks, .slice v.p.da A.plan.drops.length v.p.dc, .int .i64 (A.clock + 1), .slice v.sa A.socks.length v.sc, .slice v.ia A.dials.length v.ic, .slice v.la A.looks.length v.lc, .int .i64 A.dropped, .slice v.ma A.marks.length v.mc] 32) (.cells #[.slice v.p.za A.plan.zones.length v.p.zc, .slice v.p.fa A.plan.fates.length v.p.fc, .int .i64 A.plan.ticks, .slice v.p.da A.plan.drops.length v.p.dc, .int .i64 (A.clock + 1), .slice v.sa A.socks.length v.sc, .slice v.ia A.dials.length v.ic, .slice v.la A.looks.length v.lc, .int .i64 A.dropped, .slice v.ma A.marks.length v.mc] 32)
    have hA := HA.out.below hb
    exact ⟨v, rfl, ⟨hA.plan, hA.socks, hA.dials, hA.looks, hA.marks⟩, hb⟩
end Go.Proofs.YtciohjgcndgiaaaGreat

set_option linter.unusedSimpArgs false
set_option linter.unusedVariables false
namespace Go.Proofs.YtciohjgcndgiaaaGreat
open Go.RowKit Go.Proofs.YtciohjgcndgiaaaGreat.Kind

set_option maxHeartbeats 4000000 in
set_option maxRecDepth 1000000 in
theorem socks_copy (S : List Sk) (a : Option Addr) (c : Nat) (w : World) (hS : S.length ≤ 4000) (hA : SK.RowC w a c S) :
    Calls Tryz.prog 60 #[.slice a S.length c] w fun e w' => ∃ a1 c1, e = .returned (.slice a1 S.length c1) ∧ SK.MineC w' w.heap.size a1 c1 S ∧ Below w.heap.size w w' := by
  have HA := Lib.hid hA
  clear hA
  go_enter Tryz.func60, Tryz.ntmps60
  go_wp2_with (at_builtin; refine SK.wpList_append_rows rfl _ _ rfl w.heap.size (.slice none 0 0) rfl [] (dst_bare _ _ _) a S.length c rfl S rfl HA.out (by simp; omega) (Nat.le_refl _) ?_; intro a1 c1 w1 hD1 hM1 hB1; rw [List.nil_append] at hM1; have HM1 := Lib.hid hM1; have HB1 := Lib.hid hB1; clear hD1 hM1 hB1)
  go_ret
  exact ⟨a1, c1, rfl, HM1.out, HB1.out⟩
set_option maxHeartbeats 4000000 in
set_option maxRecDepth 1000000 in
theorem sdrop_yes (S : List Sk) (k : Nat) (x : Sk) (a : Option Addr) (c : Nat) (w : World) (hS : S.length ≤ 4000) (hx : S[k]? = some x) (h0 : x.shut = 0) (hA : SK.RowC w a c S) :
    Calls Tryz.prog 31 #[.slice a S.length c, .int .i64 k] w fun e w' => ∃ a1 c1, e = .returned (.tuple #[.slice a1 S.length c1, .int .i64 0]) ∧ SK.FarC w' w.heap.size a1 c1 (S.set k { x with dead := true }) ∧ Below w.heap.size w w' := by
  have hk := (List.getElem?_eq_some_iff.1 hx).1
  have hki : (k : Int) < (S.length : Int) := by omega
  have hk0 : ¬ (k : Int) < 0 := by omega
  have HC := Lib.hid (socks_copy S a c w hS hA)
  obtain ⟨g, o, rfl, hg, hat⟩ := hA.2.2.2 (by omega)
  have y := SK.cells hat hx
  rw [h0] at y
  obtain ⟨y0, y1, y2, y3, y4, y5, y6, y7, y8, y9, y10, y11, y12, y13⟩ := y
  have HX := Lib.hid hx
  clear hA hat hg hx y0 y1 y2 y3 y4 y5 y6 y7 y8 y9 y10 y11 y13
  go_enter Tryz.func31, Tryz.ntmps31
  go_wp2_with fail
  with_reducible refine HC.out.mono ?_
  rintro e w1 ⟨a1, c1, rfl, hM, hb⟩
  obtain ⟨g1, rfl, hg1, hrow, hcell, hfz⟩ := hM.poke (K := SK) (i := 13) (y := { x with dead := true }) (v := .bool true) HX.out (by decide) rfl
  have hc13 : w1.cell? ⟨g1, 0 + k * 14 + 13, none⟩ = some (.bool x.dead) := by rw [Nat.zero_add]; exact hcell
  have hf13 : w1.frozen? ⟨g1, 0 + k * 14 + 13, none⟩ = false := by rw [Nat.zero_add]; exact hfz
  have hcc : w1.cell? ⟨g1, k * 14 + 13, none⟩ = some (.bool x.dead) := hcell
  have hff : w1.frozen? ⟨g1, k * 14 + 13, none⟩ = false := hfz
  have HRW := Lib.hid (show SK.FarC _ w.heap.size _ _ _ from ⟨hrow, fun _ ad e => by injection e with e; subst e; exact hg1⟩)
  have HB := Lib.hid (hb.setCell (p := ⟨g1, k * 14 + 13, none⟩) hg1 (.bool true))
  clear hM hb hrow hcell hfz HC y12
  go_wp2_with fail
  go_ret2
  exact ⟨_, _, rfl, HRW.out, HB.out⟩
set_option maxHeartbeats 4000000 in
set_option maxRecDepth 1000000 in
theorem sdrop_no (S : List Sk) (n : Int) (a : Option Addr) (c : Nat) (w : World) (h : openP S n = false) (hA : SK.RowC w a c S) :
    Calls Tryz.prog 31 #[.slice a S.length c, .int .i64 n] w fun e w' => e = .returned (.tuple #[.slice none 0 0, .int .i64 80]) ∧ Below w.heap.size w w' := by
  have hb := Below.refl w.heap.size w
  by_cases h0 : n < 0
  · clear hA h
    go_enter Tryz.func31, Tryz.ntmps31
    go_wp2_with fail
    go_ret2
    exact ⟨rfl, hb⟩
  · by_cases h1 : (S.length : Int) ≤ n
    · clear hA h
      go_enter Tryz.func31, Tryz.ntmps31
      go_wp2_with fail
      go_ret2
      exact ⟨rfl, hb⟩
    · obtain ⟨k, rfl⟩ : ∃ k : Nat, n = k := ⟨n.toNat, by omega⟩
      obtain ⟨x, hx⟩ : ∃ x, S[k]? = some x := ⟨_, List.getElem?_eq_getElem (by omega)⟩
      have hs : ¬ x.shut = 0 := by
        unfold openP at h
        rw [if_neg h0] at h
        rw [show ((k : Int)).toNat = k by omega, hx] at h
        simpa [isOpen] using h
      have hki : (k : Int) < (S.length : Int) := by omega
      have hsd : decide (x.shut = 0) = false := by simp [hs]
      obtain ⟨g, o, rfl, hg, hat⟩ := hA.2.2.2 (by omega)
      obtain ⟨y0, y1, y2, y3, y4, y5, y6, y7, y8, y9, y10, y11, y12, y13⟩ := SK.cells hat hx
      clear hA hat hg hx h y0 y1 y2 y3 y4 y5 y6 y7 y8 y9 y10 y11 y13
      go_enter Tryz.func31, Tryz.ntmps31
      go_wp2_with fail
      go_ret2
      exact ⟨rfl, hb⟩

set_option maxHeartbeats 8000000 in
set_option maxRecDepth 1000000 in
theorem ref_drop (N : Nat → Prop) (A : Wo) (v : Wv) (w : World) (B : Wo) (r : Int) (hN : ∀ b, N b → b < w.heap.size) (hR : Room A) (hA : FlatN N w v A) (hB : B = dropP A) (hr : r = dropE A) :
    Calls Tryz.prog 13 #[v.val A] w (RetW N w B r) := by
  have HA := Lib.hid hA
  have hsk := hR.socks
  have hdl : A.plan.drops.length ≤ 9223372036854775807 := row_max hA.plan.now.drops
  have HPd := Lib.hid hA.plan.now.drops
  have HN := Lib.hid hN
  clear hA hR hN
  simp only [Wv.val, Wv.cells]
  by_cases h : A.dropped < 0 ∨ (A.plan.drops.length : Int) ≤ A.dropped
  · have hN : dropN A = none := by
      unfold dropN
      split
      · rfl
      · exact List.getElem?_eq_none (by omega)
    obtain rfl : B = A := by rw [hB]; unfold dropP; rw [hN]
    obtain rfl : r = 70 := by rw [hr]; unfold dropE; rw [hN]
    clear hB hr hN
    rcases h with h | h
    · go_enter Tryz.func13, Tryz.ntmps13
      go_wp2_with fail
      refine bodyPost_ret (res_cell_tmp rfl _ _ _ (w.heap.size + 1) rfl _ (loadW (v := v) (laid2 w _ _).2)) rfl ?_
      exact ⟨v, rfl, HA.out.below (below2 w _ _), below2 w _ _⟩
    · have h0 : ¬ B.dropped < 0 := by omega
      go_enter Tryz.func13, Tryz.ntmps13
      go_wp2_with fail
      refine bodyPost_ret (res_cell_tmp rfl _ _ _ (w.heap.size + 1) rfl _ (loadW (v := v) (laid2 w _ _).2)) rfl ?_
      exact ⟨v, rfl, HA.out.below (below2 w _ _), below2 w _ _⟩
  · have h0 : ¬ A.dropped < 0 := by omega
    have h1 : ¬ (A.plan.drops.length : Int) ≤ A.dropped := by omega
    have h2 : A.dropped < (A.plan.drops.length : Int) := by omega
    have h3 : 0 ≤ A.dropped := by omega
    obtain ⟨n, hn⟩ : ∃ n, A.plan.drops[A.dropped.toNat]? = some n := ⟨_, List.getElem?_eq_getElem (by omega)⟩
    have hN : dropN A = some n := by unfold dropN; rw [if_neg h0, hn]
    obtain rfl : r = 0 := by rw [hr]; unfold dropE; rw [hN]
    have HBE := Lib.hid (show B = { A with socks := deadAt A.socks n, dropped := A.dropped + 1 } by rw [hB]; unfold dropP; rw [hN])
    have hw : IntKind.i64.wrap (A.dropped + 1) = A.dropped + 1 := by rw [IntKind.wrap_i64]; omega
    obtain ⟨b, o, hda, hbl, hat⟩ := HPd.out.2.2.2 (by omega)
    have y0 := IK.one hat hn
    have HDA := Lib.hid hda
    clear hda
    clear hB hr hN h hn hat
    go_enter Tryz.func13, Tryz.ntmps13
    go_upto_region 3 with fail
    have hb := below2 w (.cells #[.slice v.p.za A.plan.zones.length v.p.zc, .slice v.p.fa A.plan.fates.length v.p.fc, .int .i64 A.plan.ticks, .slice v.p.da A.plan.drops.length v.p.dc, .int .i64 A.clock, .slice v.sa A.socks.length v.sc, .slice v.ia A.dials.length v.ic, .slice v.la A.looks.length v.lc, .int .i64 A.dropped, .slice v.ma A.marks.length v.mc] 32) (.cells #[.slice none 0 0, .slice none 0 0, .int .i64 0, .slice none 0 0, .int .i64 0, .slice none 0 0, .slice none 0 0, .slice none 0 0, .int .i64 0, .slice none 0 0] 32)
    have hL := laid2 w (.cells #[.slice v.p.za A.plan.zones.length v.p.zc, .slice v.p.fa A.plan.fates.length v.p.fc, .int .i64 A.plan.ticks, .slice v.p.da A.plan.drops.length v.p.dc, .int .i64 A.clock, .slice v.sa A.socks.length v.sc, .slice v.ia A.dials.length v.ic, .slice v.la A.looks.length v.lc, .int .i64 A.dropped, .slice v.ma A.marks.length v.mc] 32) (.cells #[.slice none 0 0, .slice none 0 0, .int .i64 0, .slice none 0 0, .int .i64 0, .slice none 0 0, .slice none 0 0, .slice none 0 0, .int .i64 0, .slice none 0 0] 32)
    obtain ⟨w1, hw1⟩ : ∃ w1, w1 = (w.alloc (.cells #[.slice v.p.za A.plan.zones.length v.p.zc, .slice v.p.fa A.plan.fates.length v.p.fc, .int .i64 A.plan.ticks, .slice v.p.da A.plan.drops.length v.p.dc, .int .i64 A.clock, .slice v.sa A.socks.length v.sc, .slice v.ia A.dials.length v.ic, .slice v.la A.looks.length v.lc, .int .i64 A.dropped, .slice v.ma A.marks.length v.mc] 32)).alloc (.cells #[.slice none 0 0, .slice none 0 0, .int .i64 0, .slice none 0 0, .int .i64 0, .slice none 0 0, .slice none 0 0, .slice none 0 0, .int .i64 0, .slice none 0 0] 32) := ⟨_, rfl⟩
    have hSZ : w1.heap.size = w.heap.size + 2 := by rw [hw1]; simp
    rw [← hw1] at hb hL ⊢
    clear hw1
    generalize hG1 : w.heap.size + 1 = G1 at *
    have HA1 := Lib.hid (HA.out.below hb)
    have HB1 := Lib.hid hb
    have HL := Lib.hid hL
    have HS := Lib.hid (show ∀ W : World, Below w1.heap.size w1 W → ((W.cell? ⟨w.heap.size, 0, none⟩ = some (.slice v.p.za A.plan.zones.length v.p.zc) ∧ W.cell? ⟨w.heap.size, 1, none⟩ = some (.slice v.p.fa A.plan.fates.length v.p.fc) ∧ W.cell? ⟨w.heap.size, 2, none⟩ = some (.int .i64 A.plan.ticks) ∧ W.cell? ⟨w.heap.size, 3, none⟩ = some (.slice (some ⟨b, o, none⟩) A.plan.drops.length v.p.dc) ∧ W.cell? ⟨w.heap.size, 4, none⟩ = some (.int .i64 A.clock) ∧ W.cell? ⟨w.heap.size, 5, none⟩ = some (.slice v.sa A.socks.length v.sc) ∧ W.cell? ⟨w.heap.size, 6, none⟩ = some (.slice v.ia A.dials.length v.ic) ∧ W.cell? ⟨w.heap.size, 7, none⟩ = some (.slice v.la A.looks.length v.lc) ∧ W.cell? ⟨w.heap.size, 8, none⟩ = some (.int .i64 A.dropped) ∧ W.cell? ⟨w.heap.size, 9, none⟩ = some (.slice v.ma A.marks.length v.mc)) ∧ W.cell? ⟨b, o + A.dropped.toNat, none⟩ = some (.int .i64 n)) ∧ Below w1.heap.size w1 W from fun W h =>
      ⟨⟨by rw [← HDA.out]; exact boxW HL.out.1 h, (h.cell (p := ⟨b, o + A.dropped.toNat, none⟩) (Nat.lt_of_lt_of_le hbl hb.size)).trans ((hb.cell (p := ⟨b, o + A.dropped.toNat, none⟩) hbl).trans y0)⟩, h⟩)
    clear hb hL y0 hbl
    by_cases ho : openP A.socks n = true
    · obtain ⟨k, x, rfl, hx, hx0⟩ : ∃ (k : Nat) (x : Sk), n = k ∧ A.socks[k]? = some x ∧ x.shut = 0 := by
        unfold openP at ho
        split at ho
        · cases ho
        · rename_i hn0
          cases hx : A.socks[n.toNat]? with
          | none => rw [hx] at ho; cases ho
          | some x =>
            rw [hx] at ho
            exact ⟨n.toNat, x, by omega, by rw [← hx], by simpa [isOpen] using ho⟩
      have HD := Lib.hid (show deadAt A.socks k = A.socks.set k { x with dead := true } by unfold deadAt; rw [if_pos ho, show ((k : Int)).toNat = k by omega, hx])
      have HC := Lib.hid (fun W' (h : Below w1.heap.size w1 W') => sdrop_yes A.socks k x v.sa v.sc W' (by omega) hx hx0 (HA1.out.below h).socks.1)
      clear ho hx hx0
      go_region_held3 (fun W' => ((W'.cell? ⟨w.heap.size, 0, none⟩ = some (.slice v.p.za A.plan.zones.length v.p.zc) ∧ W'.cell? ⟨w.heap.size, 1, none⟩ = some (.slice v.p.fa A.plan.fates.length v.p.fc) ∧ W'.cell? ⟨w.heap.size, 2, none⟩ = some (.int .i64 A.plan.ticks) ∧ W'.cell? ⟨w.heap.size, 3, none⟩ = some (.slice (some ⟨b, o, none⟩) A.plan.drops.length v.p.dc) ∧ W'.cell? ⟨w.heap.size, 4, none⟩ = some (.int .i64 A.clock) ∧ W'.cell? ⟨w.heap.size, 5, none⟩ = some (.slice v.sa A.socks.length v.sc) ∧ W'.cell? ⟨w.heap.size, 6, none⟩ = some (.slice v.ia A.dials.length v.ic) ∧ W'.cell? ⟨w.heap.size, 7, none⟩ = some (.slice v.la A.looks.length v.lc) ∧ W'.cell? ⟨w.heap.size, 8, none⟩ = some (.int .i64 A.dropped) ∧ W'.cell? ⟨w.heap.size, 9, none⟩ = some (.slice v.ma A.marks.length v.mc)) ∧ W'.cell? ⟨b, o + A.dropped.toNat, none⟩ = some (.int .i64 (k : Int))) ∧ Below w1.heap.size w1 W')
        (first | assumption | exact HS.out _ (Below.refl _ _) | exact HS.out _ (kept_call (by assumption) hbC) | exact HS.out _ (Below.refl _ _).drew)
        (first
          | (go_at_call 31; (with_reducible refine (HC.out _ (kept_self (by assumption))).mono ?_); rintro e wC ⟨a1, c1, rfl, hRw, hbC⟩))
      have HBC : Hid (Below w1.heap.size w1 wC) := Lib.hid (by first | exact kept_self (by assumption) | exact kept_call (by assumption) hbC | exact kept_call (by assumption) (Below.refl _ wC))
      have HBC : Hid (Below w1.heap.size w1 wC) := Lib.hid (by first | exact kept_self (by assumption) | exact kept_call (by assumption) hbC | exact kept_call (by assumption) (Below.refl _ wC))
      have HRW := Lib.hid (show SK.FarC wC w1.heap.size a1 c1 (A.socks.set k { x with dead := true }) from by first | exact hRw | exact hRw.mono (by simp) | exact hRw.draw)
      have hq := (HBC.out.block _ (lt_of_block HL.out.1)).trans HL.out.1
      have hz := (HBC.out.block _ (lt_of_block HL.out.2)).trans HL.out.2
      have hbw := HB1.out.trans (HBC.out.mono HB1.out.size)
      have hne : G1 ≠ w.heap.size := by omega
      have hne2 : w.heap.size ≠ G1 := by omega
      have hg1 : w.heap.size ≤ G1 := by omega
      clear HS
      clear HL
      clear HC
      clear HA1
      clear HB1
      clear HBC
      clear hRw
      obtain ⟨⟨x0, x1, x2, x3, x4, x5, x6, x7, x8, x9⟩, f0, f1, f2, f3, f4, f5, f6, f7, f8, f9⟩ := boxes10 hq
      have HQ := Lib.hid hq
      have HZ := Lib.hid hz
      have HBW := Lib.hid hbw
      clear hq hz hbw
      go_upto_region 6 with fail
      have hq : (wC.setCell ⟨w.heap.size, 5, none⟩ (.slice a1 A.socks.length c1)).heap[w.heap.size]? = some (.cells #[.slice v.p.za A.plan.zones.length v.p.zc, .slice v.p.fa A.plan.fates.length v.p.fc, .int .i64 A.plan.ticks, .slice v.p.da A.plan.drops.length v.p.dc, .int .i64 A.clock, .slice a1 A.socks.length c1, .slice v.ia A.dials.length v.ic, .slice v.la A.looks.length v.lc, .int .i64 A.dropped, .slice v.ma A.marks.length v.mc] 32 (0, 0)) := set_at HQ.out 5 _
      have hz : (wC.setCell ⟨w.heap.size, 5, none⟩ (.slice a1 A.socks.length c1)).heap[G1]? = some (.cells #[.slice none 0 0, .slice none 0 0, .int .i64 0, .slice none 0 0, .int .i64 0, .slice none 0 0, .slice none 0 0, .slice none 0 0, .int .i64 0, .slice none 0 0] 32 (0, 0)) := (Below.heap_setCell _ _ _ _ hne).trans HZ.out
      have hbw := HBW.out.setCell (p := ⟨w.heap.size, 5, none⟩) (Nat.le_refl _) (.slice a1 A.socks.length c1)
      have hrw := HRW.out.set (p := ⟨w.heap.size, 5, none⟩) (by dsimp only; omega) (.slice a1 A.socks.length c1)
      obtain ⟨w2, hw2⟩ : ∃ w2, w2 = wC.setCell ⟨w.heap.size, 5, none⟩ (.slice a1 A.socks.length c1) := ⟨_, rfl⟩
      rw [← hw2] at hq hz hbw hrw ⊢
      clear HRW
      have HRW := Lib.hid hrw
      clear hrw
      clear hw2 x0 x1 x2 x3 x4 x5 x6 x7 x8 x9 f0 f1 f2 f3 f4 f5 f6 f7 f8 f9 HQ HZ HBW
      obtain ⟨⟨x0, x1, x2, x3, x4, x5, x6, x7, x8, x9⟩, f0, f1, f2, f3, f4, f5, f6, f7, f8, f9⟩ := boxes10 hq
      have HQ := Lib.hid hq
      have HZ := Lib.hid hz
      have HBW := Lib.hid hbw
      clear hq hz hbw
      go_upto_region 7 with fail
      have hq : (w2.setCell ⟨w.heap.size, 8, none⟩ (.int .i64 (A.dropped + 1))).heap[w.heap.size]? = some (.cells #[.slice v.p.za A.plan.zones.length v.p.zc, .slice v.p.fa A.plan.fates.length v.p.fc, .int .i64 A.plan.ticks, .slice v.p.da A.plan.drops.length v.p.dc, .int .i64 A.clock, .slice a1 A.socks.length c1, .slice v.ia A.dials.length v.ic, .slice v.la A.looks.length v.lc, .int .i64 (A.dropped + 1), .slice v.ma A.marks.length v.mc] 32 (0, 0)) := set_at HQ.out 8 _
      have hz : (w2.setCell ⟨w.heap.size, 8, none⟩ (.int .i64 (A.dropped + 1))).heap[G1]? = some (.cells #[.slice none 0 0, .slice none 0 0, .int .i64 0, .slice none 0 0, .int .i64 0, .slice none 0 0, .slice none 0 0, .slice none 0 0, .int .i64 0, .slice none 0 0] 32 (0, 0)) := (Below.heap_setCell _ _ _ _ hne).trans HZ.out
      have hbw := HBW.out.setCell (p := ⟨w.heap.size, 8, none⟩) (Nat.le_refl _) (.int .i64 (A.dropped + 1))
      have hrw := HRW.out.set (p := ⟨w.heap.size, 8, none⟩) (by dsimp only; omega) (.int .i64 (A.dropped + 1))
      obtain ⟨w3, hw3⟩ : ∃ w3, w3 = w2.setCell ⟨w.heap.size, 8, none⟩ (.int .i64 (A.dropped + 1)) := ⟨_, rfl⟩
      rw [← hw3] at hq hz hbw hrw ⊢
      clear hw3 x0 x1 x2 x3 x4 x5 x6 x7 x8 x9 f0 f1 f2 f3 f4 f5 f6 f7 f8 f9 HQ HZ HBW
      obtain ⟨⟨x0, x1, x2, x3, x4, x5, x6, x7, x8, x9⟩, f0, f1, f2, f3, f4, f5, f6, f7, f8, f9⟩ := boxes10 hq
      obtain ⟨⟨y0, y1, y2, y3, y4, y5, y6, y7, y8, y9⟩, g0, g1, g2, g3, g4, g5, g6, g7, g8, g9⟩ := boxes10 hz
      have HQ := Lib.hid hq
      have HZ := Lib.hid hz
      have HBW := Lib.hid hbw
      clear hq hz hbw
      go_wp2_with fail
      have HRW := Lib.hid hrw
      obtain rfl := HBE.out
      have hz2 : (set10 w3 G1 (.slice v.p.za A.plan.zones.length v.p.zc) (.slice v.p.fa A.plan.fates.length v.p.fc) (.int .i64 A.plan.ticks) (.slice v.p.da A.plan.drops.length v.p.dc) (.int .i64 A.clock) (.slice a1 A.socks.length c1) (.slice v.ia A.dials.length v.ic) (.slice v.la A.looks.length v.lc) (.int .i64 (A.dropped + 1)) (.slice v.ma A.marks.length v.mc)).heap[G1]? = some (.cells (Wv.cells { v with sa := a1, sc := c1 } { A with socks := deadAt A.socks k, dropped := A.dropped + 1 }) 32 (0, 0)) := by
        have h := set10_at HZ.out (.slice v.p.za A.plan.zones.length v.p.zc) (.slice v.p.fa A.plan.fates.length v.p.fc) (.int .i64 A.plan.ticks) (.slice v.p.da A.plan.drops.length v.p.dc) (.int .i64 A.clock) (.slice a1 A.socks.length c1) (.slice v.ia A.dials.length v.ic) (.slice v.la A.looks.length v.lc) (.int .i64 (A.dropped + 1)) (.slice v.ma A.marks.length v.mc)
        simp only [Wv.cells, dead_len]
        exact h
      have hb2 := set10_below HBW.out hg1 (.slice v.p.za A.plan.zones.length v.p.zc) (.slice v.p.fa A.plan.fates.length v.p.fc) (.int .i64 A.plan.ticks) (.slice v.p.da A.plan.drops.length v.p.dc) (.int .i64 A.clock) (.slice a1 A.socks.length c1) (.slice v.ia A.dials.length v.ic) (.slice v.la A.looks.length v.lc) (.int .i64 (A.dropped + 1)) (.slice v.ma A.marks.length v.mc)
      have hA2 := HA.out.below hb2
      have hr2 := (set10_far HRW.out (show G1 < w1.heap.size by omega) (.slice v.p.za A.plan.zones.length v.p.zc) (.slice v.p.fa A.plan.fates.length v.p.fc) (.int .i64 A.plan.ticks) (.slice v.p.da A.plan.drops.length v.p.dc) (.int .i64 A.clock) (.slice a1 A.socks.length c1) (.slice v.ia A.dials.length v.ic) (.slice v.la A.looks.length v.lc) (.int .i64 (A.dropped + 1)) (.slice v.ma A.marks.length v.mc)).off (N := N) (fun b h => by have := HN.out b h; omega)
      rw [← HD.out] at hr2
      refine bodyPost_ret (res_cell_tmp rfl _ _ _ G1 rfl _ (loadW hz2)) rfl ?_
      exact ⟨{ v with sa := a1, sc := c1 }, rfl, ⟨hA2.plan, hr2, hA2.dials, hA2.looks, hA2.marks⟩, hb2⟩
    · have HD := Lib.hid (show deadAt A.socks n = A.socks by unfold deadAt; rw [if_neg ho])
      have hof : openP A.socks n = false := by simpa using ho
      have HC := Lib.hid (fun W' (h : Below w1.heap.size w1 W') => sdrop_no A.socks n v.sa v.sc W' hof (HA1.out.below h).socks.1)
      clear ho hof
      go_region_held3 (fun W' => ((W'.cell? ⟨w.heap.size, 0, none⟩ = some (.slice v.p.za A.plan.zones.length v.p.zc) ∧ W'.cell? ⟨w.heap.size, 1, none⟩ = some (.slice v.p.fa A.plan.fates.length v.p.fc) ∧ W'.cell? ⟨w.heap.size, 2, none⟩ = some (.int .i64 A.plan.ticks) ∧ W'.cell? ⟨w.heap.size, 3, none⟩ = some (.slice (some ⟨b, o, none⟩) A.plan.drops.length v.p.dc) ∧ W'.cell? ⟨w.heap.size, 4, none⟩ = some (.int .i64 A.clock) ∧ W'.cell? ⟨w.heap.size, 5, none⟩ = some (.slice v.sa A.socks.length v.sc) ∧ W'.cell? ⟨w.heap.size, 6, none⟩ = some (.slice v.ia A.dials.length v.ic) ∧ W'.cell? ⟨w.heap.size, 7, none⟩ = some (.slice v.la A.looks.length v.lc) ∧ W'.cell? ⟨w.heap.size, 8, none⟩ = some (.int .i64 A.dropped) ∧ W'.cell? ⟨w.heap.size, 9, none⟩ = some (.slice v.ma A.marks.length v.mc)) ∧ W'.cell? ⟨b, o + A.dropped.toNat, none⟩ = some (.int .i64 n)) ∧ Below w1.heap.size w1 W')
        (first | assumption | exact HS.out _ (Below.refl _ _) | exact HS.out _ (kept_call (by assumption) hbC) | exact HS.out _ (Below.refl _ _).drew)
        (first
          | (go_at_call 31; (with_reducible refine (HC.out _ (kept_self (by assumption))).mono ?_); rintro e wC ⟨rfl, hbC⟩))
      have HBC : Hid (Below w1.heap.size w1 wC) := Lib.hid (by first | exact kept_self (by assumption) | exact kept_call (by assumption) hbC | exact kept_call (by assumption) (Below.refl _ wC))
      have hq := (HBC.out.block _ (lt_of_block HL.out.1)).trans HL.out.1
      have hz := (HBC.out.block _ (lt_of_block HL.out.2)).trans HL.out.2
      have hbw := HB1.out.trans (HBC.out.mono HB1.out.size)
      have hne : G1 ≠ w.heap.size := by omega
      have hne2 : w.heap.size ≠ G1 := by omega
      have hg1 : w.heap.size ≤ G1 := by omega
      clear HS
      clear HL
      clear HC
      clear HA1
      clear HB1
      clear HBC
      obtain ⟨⟨x0, x1, x2, x3, x4, x5, x6, x7, x8, x9⟩, f0, f1, f2, f3, f4, f5, f6, f7, f8, f9⟩ := boxes10 hq
      have HQ := Lib.hid hq
      have HZ := Lib.hid hz
      have HBW := Lib.hid hbw
      clear hq hz hbw
      go_upto_region 7 with fail
      have hq : (wC.setCell ⟨w.heap.size, 8, none⟩ (.int .i64 (A.dropped + 1))).heap[w.heap.size]? = some (.cells #[.slice v.p.za A.plan.zones.length v.p.zc, .slice v.p.fa A.plan.fates.length v.p.fc, .int .i64 A.plan.ticks, .slice v.p.da A.plan.drops.length v.p.dc, .int .i64 A.clock, .slice v.sa A.socks.length v.sc, .slice v.ia A.dials.length v.ic, .slice v.la A.looks.length v.lc, .int .i64 (A.dropped + 1), .slice v.ma A.marks.length v.mc] 32 (0, 0)) := set_at HQ.out 8 _
      have hz : (wC.setCell ⟨w.heap.size, 8, none⟩ (.int .i64 (A.dropped + 1))).heap[G1]? = some (.cells #[.slice none 0 0, .slice none 0 0, .int .i64 0, .slice none 0 0, .int .i64 0, .slice none 0 0, .slice none 0 0, .slice none 0 0, .int .i64 0, .slice none 0 0] 32 (0, 0)) := (Below.heap_setCell _ _ _ _ hne).trans HZ.out
      have hbw := HBW.out.setCell (p := ⟨w.heap.size, 8, none⟩) (Nat.le_refl _) (.int .i64 (A.dropped + 1))
      obtain ⟨w3, hw3⟩ : ∃ w3, w3 = wC.setCell ⟨w.heap.size, 8, none⟩ (.int .i64 (A.dropped + 1)) := ⟨_, rfl⟩
      rw [← hw3] at hq hz hbw ⊢
      clear hw3 x0 x1 x2 x3 x4 x5 x6 x7 x8 x9 f0 f1 f2 f3 f4 f5 f6 f7 f8 f9 HQ HZ HBW
      obtain ⟨⟨x0, x1, x2, x3, x4, x5, x6, x7, x8, x9⟩, f0, f1, f2, f3, f4, f5, f6, f7, f8, f9⟩ := boxes10 hq
      obtain ⟨⟨y0, y1, y2, y3, y4, y5, y6, y7, y8, y9⟩, g0, g1, g2, g3, g4, g5, g6, g7, g8, g9⟩ := boxes10 hz
      have HQ := Lib.hid hq
      have HZ := Lib.hid hz
      have HBW := Lib.hid hbw
      clear hq hz hbw
      go_wp2_with fail
      obtain rfl := HBE.out
      have hz2 : (set10 w3 G1 (.slice v.p.za A.plan.zones.length v.p.zc) (.slice v.p.fa A.plan.fates.length v.p.fc) (.int .i64 A.plan.ticks) (.slice v.p.da A.plan.drops.length v.p.dc) (.int .i64 A.clock) (.slice v.sa A.socks.length v.sc) (.slice v.ia A.dials.length v.ic) (.slice v.la A.looks.length v.lc) (.int .i64 (A.dropped + 1)) (.slice v.ma A.marks.length v.mc)).heap[G1]? = some (.cells (Wv.cells v { A with socks := deadAt A.socks n, dropped := A.dropped + 1 }) 32 (0, 0)) := by
        have h := set10_at HZ.out (.slice v.p.za A.plan.zones.length v.p.zc) (.slice v.p.fa A.plan.fates.length v.p.fc) (.int .i64 A.plan.ticks) (.slice v.p.da A.plan.drops.length v.p.dc) (.int .i64 A.clock) (.slice v.sa A.socks.length v.sc) (.slice v.ia A.dials.length v.ic) (.slice v.la A.looks.length v.lc) (.int .i64 (A.dropped + 1)) (.slice v.ma A.marks.length v.mc)
        simp only [Wv.cells, dead_len]
        exact h
      have hb2 := set10_below HBW.out hg1 (.slice v.p.za A.plan.zones.length v.p.zc) (.slice v.p.fa A.plan.fates.length v.p.fc) (.int .i64 A.plan.ticks) (.slice v.p.da A.plan.drops.length v.p.dc) (.int .i64 A.clock) (.slice v.sa A.socks.length v.sc) (.slice v.ia A.dials.length v.ic) (.slice v.la A.looks.length v.lc) (.int .i64 (A.dropped + 1)) (.slice v.ma A.marks.length v.mc)
      have hA2 := HA.out.below hb2
      refine bodyPost_ret (res_cell_tmp rfl _ _ _ G1 rfl _ (loadW hz2)) rfl ?_
      exact ⟨v, rfl, ⟨hA2.plan, by show SK.OffC N _ _ _ (deadAt A.socks n); rw [HD.out]; exact hA2.socks, hA2.dials, hA2.looks, hA2.marks⟩, hb2⟩
end Go.Proofs.YtciohjgcndgiaaaGreat

