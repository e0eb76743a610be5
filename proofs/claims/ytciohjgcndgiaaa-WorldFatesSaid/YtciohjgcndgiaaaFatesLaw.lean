/- Who is good ends well; who has no fates never does. -/
import Derived.Test.YtciohjgcndgiaaaWakes
import Derived.Test.YtciohjgcndgiaaaRefPlan
import Derived.Test.YtciohjgcndgiaaaScripts
import Derived.Test.YtciohjgcndgiaaaVk
set_option linter.unusedSimpArgs false
set_option linter.unusedVariables false
namespace Go.Proofs.Ytciohjgcndgiaaa
open Go.RowKit Go.Proofs.Ytciohjgcndgiaaa.Kind

set_option maxHeartbeats 40000000 in
set_option maxRecDepth 1000000 in
theorem worldfates_walk (R : Rules) (hOk : fateOk R) (HNew : NewSpec R) (HDial : DialSpec) (HReady : ReadySpec) (HCut : CutSpec) (HEnd : EndSpec) (HWk : WakesSpec) (P : Pl) (pv : Pv) (a : Ad) (L : List Bool) (al : Option Addr) (cl : Nat) (w : World) (hM : Mem P) (hP : PlanC w pv P) (hL : VK.RowC w al cl L) :
    Calls Try.prog 4 #[pv.val P, a.v, .slice al L.length cl] w fun e w' => e = .returned (.bool true) ∧ Below w.heap.size w w' := by
  have HWk := Lib.hid (fun w => HWk w)
  have HPL := Lib.hid (fun (W : World) (h : Below w.heap.size w W) => hP.below h)
  have HCL := Lib.hid (fun (W : World) (h : Below w.heap.size w W) => hL.below h)
  have hLm : L.length ≤ 9223372036854775807 := row_max hL
  have HGp := Lib.hid (fun w h => great_any pv P w h)
  have HMy := Lib.hid (fun b c w h => refMay_any [a] b c w (by simp) h)
  have HGd := Lib.hid (fun b c w h h2 => ref_good P pv a b c w h h2)
  have HFt := Lib.hid (fun n w h => ref_fate P pv a n w h)
  have HN0 := Lib.hid (fun N w A r hN hp h1 h2 => HNew N P pv w A r hN hM hp h1 h2)
  have HDl := Lib.hid HDial
  have HDl := Lib.hid (fun N A v y w B r hN hR hf hB hr => HDial N A v y a w B r hN hR hf hB hr)
  have HRd := Lib.hid (fun A v y w r hR h hr => HReady A v y w r hR h hr)
  have HCt := Lib.hid (fun N A v y w B hN hR hf hB => HCut N A v y w B hN hR hf hB)
  have HEn := Lib.hid (fun N A v y w B m r hN hR hf h1 h2 h3 => HEnd N A v y w B m r hN hR hf h1 h2 h3)
  have HOk := Lib.hid hOk
  have HMm := Lib.hid hM
  clear HNew HDial HReady HCut HEnd hP hL hM hOk
  simp only [Pv.val, Ad.v] at HGp HGd HFt HN0 HDl ⊢
  simp only [List.length_cons, List.length_nil, Nat.zero_add, List.all_cons, List.all_nil, Bool.and_true] at HMy
  go_enter Try.func4, Try.ntmps4
  have HB := Lib.hid (Below.refl w.heap.size w)
  go_upto_region 1 with fail
  obtain ⟨bx3, hdx3⟩ : ∃ b, b = w.heap.size := ⟨_, rfl⟩
  have hgex3 : w.heap.size ≤ bx3 := by rw [hdx3]; exact HB.out.size
  have hl2 := laid2 w (.cells #[.slice pv.za P.zones.length pv.zc, .slice pv.fa P.fates.length pv.fc, .int .i64 P.ticks, .slice pv.da P.drops.length pv.dc] 26) (.cells #[.int .i8 a.f, .int .u16 a.g0, .int .u16 a.g1, .int .u16 a.g2, .int .u16 a.g3, .int .u16 a.g4, .int .u16 a.g5, .int .u16 a.g6, .int .u16 a.g7, .int .i64 a.p] 43)
  have hb2 := below2 w (.cells #[.slice pv.za P.zones.length pv.zc, .slice pv.fa P.fates.length pv.fc, .int .i64 P.ticks, .slice pv.da P.drops.length pv.dc] 26) (.cells #[.int .i8 a.f, .int .u16 a.g0, .int .u16 a.g1, .int .u16 a.g2, .int .u16 a.g3, .int .u16 a.g4, .int .u16 a.g5, .int .u16 a.g6, .int .u16 a.g7, .int .i64 a.p] 43)
  obtain ⟨W1, hW1⟩ : ∃ X, X = (w.alloc (.cells #[.slice pv.za P.zones.length pv.zc, .slice pv.fa P.fates.length pv.fc, .int .i64 P.ticks, .slice pv.da P.drops.length pv.dc] 26)).alloc (.cells #[.int .i8 a.f, .int .u16 a.g0, .int .u16 a.g1, .int .u16 a.g2, .int .u16 a.g3, .int .u16 a.g4, .int .u16 a.g5, .int .u16 a.g6, .int .u16 a.g7, .int .i64 a.p] 43) := ⟨_, rfl⟩
  rw [← hW1] at hl2 hb2 ⊢
  clear hW1
  rw [← hdx3] at hl2 ⊢
  obtain ⟨bx4, hdx4⟩ : ∃ b, b = bx3 + 1 := ⟨_, rfl⟩
  rw [← hdx4] at hl2 ⊢
  have hgex4 : w.heap.size ≤ bx4 := by omega
  have hltx3x4 : bx3 < bx4 := by omega
  replace HB := Lib.hid (HB.out.trans (hb2.mono HB.out.size))
  replace Hx3 := Lib.hid hl2.1
  replace Hx4 := Lib.hid hl2.2
  clear hl2 hb2 hdx3 hdx4
  by_cases hck : checkB R P = true
  · obtain ⟨h1, h2⟩ := new_yes hck
    obtain ⟨⟨x3_c0, x3_c1, x3_c2, x3_c3⟩, x3_f0, x3_f1, x3_f2, x3_f3⟩ := box4 Hx3.out
    obtain ⟨⟨x4_c0, x4_c1, x4_c2, x4_c3, x4_c4, x4_c5, x4_c6, x4_c7, x4_c8, x4_c9⟩, x4_f0, x4_f1, x4_f2, x4_f3, x4_f4, x4_f5, x4_f6, x4_f7, x4_f8, x4_f9⟩ := boxes10 Hx4.out
    have HX := Lib.hid (HN0.out (fun b => b ∈ ([] : List Nat)) W1 _ _ (by intro b hb; simp only [List.mem_cons, List.not_mem_nil, or_false] at hb <;> omega) (HPL.out W1 HB.out) h1 h2)
    try simp only [Wv.val, Wv.cells] at HX
    go_wp2_with fail
    with_reducible refine HX.out.mono ?_
    rintro e wA ⟨⟨p1, a11, c11, a12, c12, a13, c13, a14, c14⟩, rfl, hfl, hb⟩
    clear h1 h2
    clear x3_c0 x3_c1 x3_c2 x3_c3 x3_f0 x3_f1 x3_f2 x3_f3 x4_c0 x4_c1 x4_c2 x4_c3 x4_c4 x4_c5 x4_c6 x4_c7 x4_c8 x4_c9 x4_f0 x4_f1 x4_f2 x4_f3 x4_f4 x4_f5 x4_f6 x4_f7 x4_f8 x4_f9
    replace Hx3 := Lib.hid ((hb.block _ (lt_of_block Hx3.out)).trans Hx3.out)
    replace Hx4 := Lib.hid ((hb.block _ (lt_of_block Hx4.out)).trans Hx4.out)
    replace HB := Lib.hid (HB.out.trans (hb.mono HB.out.size))
    have Hf7 := Lib.hid hfl
    clear hb hfl HX
    simp only [Wv.val, Wv.cells, Lt.v]
    obtain ⟨⟨x3_c0, x3_c1, x3_c2, x3_c3⟩, x3_f0, x3_f1, x3_f2, x3_f3⟩ := box4 Hx3.out
    obtain ⟨⟨x4_c0, x4_c1, x4_c2, x4_c3, x4_c4, x4_c5, x4_c6, x4_c7, x4_c8, x4_c9⟩, x4_f0, x4_f1, x4_f2, x4_f3, x4_f4, x4_f5, x4_f6, x4_f7, x4_f8, x4_f9⟩ := boxes10 Hx4.out
    go_upto_region 2 with fail
    have HI0 := Lib.hid (fates_new P a)
    generalize Wo.new P = A0 at *
    clear x3_c0 x3_c1 x3_c2 x3_c3 x3_f0 x3_f1 x3_f2 x3_f3 x4_c0 x4_c1 x4_c2 x4_c3 x4_c4 x4_c5 x4_c6 x4_c7 x4_c8 x4_c9 x4_f0 x4_f1 x4_f2 x4_f3 x4_f4 x4_f5 x4_f6 x4_f7 x4_f8 x4_f9
    obtain ⟨bx7, hdx7⟩ : ∃ b, b = wA.heap.size := ⟨_, rfl⟩
    have hgex7 : w.heap.size ≤ bx7 := by rw [hdx7]; exact HB.out.size
    have hltx3x7 : bx3 < bx7 := by rw [hdx7]; exact lt_of_block Hx3.out
    have hltx4x7 : bx4 < bx7 := by rw [hdx7]; exact lt_of_block Hx4.out
    obtain ⟨W2, hW2⟩ : ∃ X, X = wA.alloc (.cells #[.slice p1.za A0.plan.zones.length p1.zc, .slice p1.fa A0.plan.fates.length p1.fc, .int .i64 A0.plan.ticks, .slice p1.da A0.plan.drops.length p1.dc, .int .i64 A0.clock, .slice a11 A0.socks.length c11, .slice a12 A0.dials.length c12, .slice a13 A0.looks.length c13, .int .i64 A0.dropped, .slice a14 A0.marks.length c14] 33) := ⟨_, rfl⟩
    have hlx7 := laid1 wA (.cells #[.slice p1.za A0.plan.zones.length p1.zc, .slice p1.fa A0.plan.fates.length p1.fc, .int .i64 A0.plan.ticks, .slice p1.da A0.plan.drops.length p1.dc, .int .i64 A0.clock, .slice a11 A0.socks.length c11, .slice a12 A0.dials.length c12, .slice a13 A0.looks.length c13, .int .i64 A0.dropped, .slice a14 A0.marks.length c14] 33)
    have hbx7 := below1 wA (.cells #[.slice p1.za A0.plan.zones.length p1.zc, .slice p1.fa A0.plan.fates.length p1.fc, .int .i64 A0.plan.ticks, .slice p1.da A0.plan.drops.length p1.dc, .int .i64 A0.clock, .slice a11 A0.socks.length c11, .slice a12 A0.dials.length c12, .slice a13 A0.looks.length c13, .int .i64 A0.dropped, .slice a14 A0.marks.length c14] 33)
    rw [← hW2] at hlx7 hbx7 ⊢
    clear hW2
    replace Hf7 := Lib.hid (Hf7.out.more (M := (fun b => b ∈ ([bx7] : List Nat))) (by intro b hb; simp only [List.mem_cons, List.not_mem_nil, or_false] at hb ⊢ <;> (first | omega | (right; omega))))
    replace Hx3 := Lib.hid ((hbx7.block _ (lt_of_block Hx3.out)).trans Hx3.out)
    replace Hx4 := Lib.hid ((hbx7.block _ (lt_of_block Hx4.out)).trans Hx4.out)
    replace Hf7 := Lib.hid (Hf7.out.below hbx7)
    replace HB := Lib.hid (HB.out.trans (hbx7.mono HB.out.size))
    rw [← hdx7] at hlx7 ⊢
    replace Hx7 := Lib.hid hlx7
    clear hlx7 hbx7 hdx7
    obtain ⟨⟨x3_c0, x3_c1, x3_c2, x3_c3⟩, x3_f0, x3_f1, x3_f2, x3_f3⟩ := box4 Hx3.out
    obtain ⟨⟨x4_c0, x4_c1, x4_c2, x4_c3, x4_c4, x4_c5, x4_c6, x4_c7, x4_c8, x4_c9⟩, x4_f0, x4_f1, x4_f2, x4_f3, x4_f4, x4_f5, x4_f6, x4_f7, x4_f8, x4_f9⟩ := boxes10 Hx4.out
    have HX := Lib.hid (HGp.out W2 (HPL.out W2 HB.out))
    try simp only [Wv.val, Wv.cells] at HX
    go_wp2_with fail
    with_reducible refine HX.out.mono ?_
    rintro e wB ⟨⟨rp, rfl, hfew⟩, hb⟩
    have HFE := Lib.hid hfew
    clear hfew HX
    clear x3_c0 x3_c1 x3_c2 x3_c3 x3_f0 x3_f1 x3_f2 x3_f3 x4_c0 x4_c1 x4_c2 x4_c3 x4_c4 x4_c5 x4_c6 x4_c7 x4_c8 x4_c9 x4_f0 x4_f1 x4_f2 x4_f3 x4_f4 x4_f5 x4_f6 x4_f7 x4_f8 x4_f9
    replace Hx3 := Lib.hid ((hb.block _ (lt_of_block Hx3.out)).trans Hx3.out)
    replace Hx4 := Lib.hid ((hb.block _ (lt_of_block Hx4.out)).trans Hx4.out)
    replace Hx7 := Lib.hid ((hb.block _ (lt_of_block Hx7.out)).trans Hx7.out)
    replace Hf7 := Lib.hid (Hf7.out.below hb)
    replace HB := Lib.hid (HB.out.trans (hb.mono HB.out.size))
    clear hb
    cases rp with
    | true =>
      go_wp2_with fail
      with_reducible refine (HWk.out _).mono ?_
      rintro e wf ⟨rfl, hb⟩
      have HBf := Lib.hid (HB.out.trans (hb.mono HB.out.size))
      clear hb
      go_wp2_with fail
      go_ret
      exact ⟨rfl, HBf.out⟩
    | false =>
      have HFew := Lib.hid (HFE.out (by trivial))
      clear HFE
      have HCk := Lib.hid (check_few hck)
      have hck2 := hck
      have HC2 := Lib.hid hck2
      clear hck hck2
      by_cases h40 : (40 : Int) < (L.length : Int)
      · go_wp2_with fail
        with_reducible refine (HWk.out _).mono ?_
        rintro e wf ⟨rfl, hb⟩
        have HBf := Lib.hid (HB.out.trans (hb.mono HB.out.size))
        clear hb
        go_wp2_with fail
        go_ret
        exact ⟨rfl, HBf.out⟩
      ·
        have hbU := below1 wB (.cells #[.int .i8 a.f, .int .u16 a.g0, .int .u16 a.g1, .int .u16 a.g2, .int .u16 a.g3, .int .u16 a.g4, .int .u16 a.g5, .int .u16 a.g6, .int .u16 a.g7, .int .i64 a.p] 43)
        have HX := Lib.hid (HMy.out (some ⟨wB.heap.size, 0, none⟩) 1 (wB.alloc (.cells #[.int .i8 a.f, .int .u16 a.g0, .int .u16 a.g1, .int .u16 a.g2, .int .u16 a.g3, .int .u16 a.g4, .int .u16 a.g5, .int .u16 a.g6, .int .u16 a.g7, .int .i64 a.p] 43)) (rowC_at (K := AK) wB 43 [a] _ wB.heap.size 1 rfl rfl rfl (by simp)))
        obtain ⟨⟨x3_c0, x3_c1, x3_c2, x3_c3⟩, x3_f0, x3_f1, x3_f2, x3_f3⟩ := box4 Hx3.out
        obtain ⟨⟨x4_c0, x4_c1, x4_c2, x4_c3, x4_c4, x4_c5, x4_c6, x4_c7, x4_c8, x4_c9⟩, x4_f0, x4_f1, x4_f2, x4_f3, x4_f4, x4_f5, x4_f6, x4_f7, x4_f8, x4_f9⟩ := boxes10 Hx4.out
        go_wp2_with fail
        with_reducible refine HX.out.mono ?_
        rintro e wC ⟨rfl, hb0⟩
        have hb := hbU.trans (hb0.mono hbU.size)
        clear x3_c0 x3_c1 x3_c2 x3_c3 x3_f0 x3_f1 x3_f2 x3_f3 x4_c0 x4_c1 x4_c2 x4_c3 x4_c4 x4_c5 x4_c6 x4_c7 x4_c8 x4_c9 x4_f0 x4_f1 x4_f2 x4_f3 x4_f4 x4_f5 x4_f6 x4_f7 x4_f8 x4_f9
        replace Hx3 := Lib.hid ((hb.block _ (lt_of_block Hx3.out)).trans Hx3.out)
        replace Hx4 := Lib.hid ((hb.block _ (lt_of_block Hx4.out)).trans Hx4.out)
        replace Hx7 := Lib.hid ((hb.block _ (lt_of_block Hx7.out)).trans Hx7.out)
        replace Hf7 := Lib.hid (Hf7.out.below hb)
        replace HB := Lib.hid (HB.out.trans (hb.mono HB.out.size))
        clear hb hb0 hbU HX
        obtain ⟨my, hmy⟩ : ∃ m, m = mayP a := ⟨_, rfl⟩
        rw [← hmy]
        have HMA := Lib.hid hmy
        clear hmy
        cases my with
        | false =>
          go_wp2_with fail
          with_reducible refine (HWk.out _).mono ?_
          rintro e wf ⟨rfl, hb⟩
          have HBf := Lib.hid (HB.out.trans (hb.mono HB.out.size))
          clear hb
          go_wp2_with fail
          go_ret
          exact ⟨rfl, HBf.out⟩
        | true =>
          have hbU := below1 wC (.cells #[.int .i8 a.f, .int .u16 a.g0, .int .u16 a.g1, .int .u16 a.g2, .int .u16 a.g3, .int .u16 a.g4, .int .u16 a.g5, .int .u16 a.g6, .int .u16 a.g7, .int .i64 a.p] 43)
          have HX := Lib.hid (HGd.out (some ⟨wC.heap.size, 0, none⟩) 1 (wC.alloc (.cells #[.int .i8 a.f, .int .u16 a.g0, .int .u16 a.g1, .int .u16 a.g2, .int .u16 a.g3, .int .u16 a.g4, .int .u16 a.g5, .int .u16 a.g6, .int .u16 a.g7, .int .i64 a.p] 43)) ((HPL.out wC HB.out).below hbU) (rowC_at (K := AK) wC 43 [a] _ wC.heap.size 1 rfl rfl rfl (by simp)))
          obtain ⟨⟨x3_c0, x3_c1, x3_c2, x3_c3⟩, x3_f0, x3_f1, x3_f2, x3_f3⟩ := box4 Hx3.out
          obtain ⟨⟨x4_c0, x4_c1, x4_c2, x4_c3, x4_c4, x4_c5, x4_c6, x4_c7, x4_c8, x4_c9⟩, x4_f0, x4_f1, x4_f2, x4_f3, x4_f4, x4_f5, x4_f6, x4_f7, x4_f8, x4_f9⟩ := boxes10 Hx4.out
          go_wp2_with fail
          with_reducible refine HX.out.mono ?_
          rintro e wD ⟨⟨gd, rfl, hgd⟩, hb0⟩
          have hb := hbU.trans (hb0.mono hbU.size)
          have HGo := Lib.hid hgd
          clear x3_c0 x3_c1 x3_c2 x3_c3 x3_f0 x3_f1 x3_f2 x3_f3 x4_c0 x4_c1 x4_c2 x4_c3 x4_c4 x4_c5 x4_c6 x4_c7 x4_c8 x4_c9 x4_f0 x4_f1 x4_f2 x4_f3 x4_f4 x4_f5 x4_f6 x4_f7 x4_f8 x4_f9
          replace Hx3 := Lib.hid ((hb.block _ (lt_of_block Hx3.out)).trans Hx3.out)
          replace Hx4 := Lib.hid ((hb.block _ (lt_of_block Hx4.out)).trans Hx4.out)
          replace Hx7 := Lib.hid ((hb.block _ (lt_of_block Hx7.out)).trans Hx7.out)
          replace Hf7 := Lib.hid (Hf7.out.below hb)
          replace HB := Lib.hid (HB.out.trans (hb.mono HB.out.size))
          clear hb hb0 hbU HX hgd
          go_upto_region 5 with fail
          go_cut [10] from 44 to 59 (fun s10 wx => ∃ n : Bool, s10 = .bool n ∧ Hid (n = true → P.fates.length = 0) ∧ Hid (Below wD.heap.size wD wx))
          case first =>
            obtain ⟨⟨x3_c0, x3_c1, x3_c2, x3_c3⟩, x3_f0, x3_f1, x3_f2, x3_f3⟩ := box4 Hx3.out
            obtain ⟨⟨x4_c0, x4_c1, x4_c2, x4_c3, x4_c4, x4_c5, x4_c6, x4_c7, x4_c8, x4_c9⟩, x4_f0, x4_f1, x4_f2, x4_f3, x4_f4, x4_f5, x4_f6, x4_f7, x4_f8, x4_f9⟩ := boxes10 Hx4.out
            have HX := Lib.hid (HFt.out 0 wD (HPL.out wD HB.out))
            try simp only [Wv.val, Wv.cells] at HX
            go_wp2_with fail
            with_reducible refine HX.out.mono ?_
            rintro e wE ⟨z0, rfl, hb⟩
            have HBE := Lib.hid hb
            clear x3_c0 x3_c1 x3_c2 x3_c3 x3_f0 x3_f1 x3_f2 x3_f3 x4_c0 x4_c1 x4_c2 x4_c3 x4_c4 x4_c5 x4_c6 x4_c7 x4_c8 x4_c9 x4_f0 x4_f1 x4_f2 x4_f3 x4_f4 x4_f5 x4_f6 x4_f7 x4_f8 x4_f9
            replace Hx3 := Lib.hid ((hb.block _ (lt_of_block Hx3.out)).trans Hx3.out)
            replace Hx4 := Lib.hid ((hb.block _ (lt_of_block Hx4.out)).trans Hx4.out)
            replace Hx7 := Lib.hid ((hb.block _ (lt_of_block Hx7.out)).trans Hx7.out)
            replace Hf7 := Lib.hid (Hf7.out.below hb)
            replace HB := Lib.hid (HB.out.trans (hb.mono HB.out.size))
            clear hb HX
            by_cases hz0 : z0 = 1
            · subst hz0
              obtain ⟨⟨x3_c0, x3_c1, x3_c2, x3_c3⟩, x3_f0, x3_f1, x3_f2, x3_f3⟩ := box4 Hx3.out
              obtain ⟨⟨x4_c0, x4_c1, x4_c2, x4_c3, x4_c4, x4_c5, x4_c6, x4_c7, x4_c8, x4_c9⟩, x4_f0, x4_f1, x4_f2, x4_f3, x4_f4, x4_f5, x4_f6, x4_f7, x4_f8, x4_f9⟩ := boxes10 Hx4.out
              have HX := Lib.hid (HFt.out 32 wE (HPL.out wE HB.out))
              try simp only [Wv.val, Wv.cells] at HX
              go_wp2_with fail
              with_reducible refine HX.out.mono ?_
              rintro e wF ⟨z1, rfl, hb⟩
              have HBF := Lib.hid (HBE.out.trans (hb.mono HBE.out.size))
              clear x3_c0 x3_c1 x3_c2 x3_c3 x3_f0 x3_f1 x3_f2 x3_f3 x4_c0 x4_c1 x4_c2 x4_c3 x4_c4 x4_c5 x4_c6 x4_c7 x4_c8 x4_c9 x4_f0 x4_f1 x4_f2 x4_f3 x4_f4 x4_f5 x4_f6 x4_f7 x4_f8 x4_f9
              replace Hx3 := Lib.hid ((hb.block _ (lt_of_block Hx3.out)).trans Hx3.out)
              replace Hx4 := Lib.hid ((hb.block _ (lt_of_block Hx4.out)).trans Hx4.out)
              replace Hx7 := Lib.hid ((hb.block _ (lt_of_block Hx7.out)).trans Hx7.out)
              replace Hf7 := Lib.hid (Hf7.out.below hb)
              replace HB := Lib.hid (HB.out.trans (hb.mono HB.out.size))
              clear hb HX
              obtain ⟨⟨x3_c0, x3_c1, x3_c2, x3_c3⟩, x3_f0, x3_f1, x3_f2, x3_f3⟩ := box4 Hx3.out
              by_cases hz1 : z1 = 1
              · subst hz1
                obtain ⟨fl, hfl⟩ : ∃ m, m = P.fates.length := ⟨_, rfl⟩
                rw [← hfl] at x3_c1
                have HFL := Lib.hid hfl
                clear hfl
                by_cases hl0 : fl = 0
                · subst hl0
                  go_wp2_with fail
                  go_meet
                  exact ⟨_, rfl, Lib.hid (fun _ => HFL.out.symm), HBF⟩
                · have hlb : ((fl : Int) == 0) = false := by simp [hl0]
                  go_wp2_with fail
                  go_meet
                  exact ⟨false, by first | rfl | (rw [hlb]) | simp [hl0], Lib.hid (fun h => by cases h), HBF⟩
              · have hzb : (z1 == 1) = false := by simp [hz1]
                go_wp2_with fail
                go_meet
                exact ⟨false, by first | rfl | simp [hz1], Lib.hid (fun h => by cases h), HBF⟩
            · have hzb : (z0 == 1) = false := by simp [hz0]
              go_wp2_with fail
              go_meet
              exact ⟨false, by first | rfl | simp [hz0], Lib.hid (fun h => by cases h), HBE⟩
          case rest =>
            obtain ⟨nn, rfl, HNn, HBx⟩ := hcut
            have hb := HBx.out
            replace Hx3 := Lib.hid ((hb.block _ (lt_of_block Hx3.out)).trans Hx3.out)
            replace Hx4 := Lib.hid ((hb.block _ (lt_of_block Hx4.out)).trans Hx4.out)
            replace Hx7 := Lib.hid ((hb.block _ (lt_of_block Hx7.out)).trans Hx7.out)
            replace Hf7 := Lib.hid (Hf7.out.below hb)
            replace HB := Lib.hid (HB.out.trans (hb.mono HB.out.size))
            clear hb HBx
            go_wp2_with fail
            go_loopw [11] (fun u11 wr => ∃ (i : Nat) (A : Wo) (p0 : Pv) (a1 : Option Addr) (c1 : Nat) (a2 : Option Addr) (c2 : Nat) (a3 : Option Addr) (c3 : Nat) (a4 : Option Addr) (c4 : Nat), u11 = .int .i64 i ∧ i ≤ L.length ∧ Hid (FatesInv P a A i) ∧ Hid (FlatN (fun b => b ∈ ([bx7] : List Nat)) wr ⟨p0, a1, c1, a2, c2, a3, c3, a4, c4⟩ A) ∧ Hid (wr.heap[bx7]? = some (.cells #[.slice p0.za A.plan.zones.length p0.zc, .slice p0.fa A.plan.fates.length p0.fc, .int .i64 A.plan.ticks, .slice p0.da A.plan.drops.length p0.dc, .int .i64 A.clock, .slice a1 A.socks.length c1, .slice a2 A.dials.length c2, .slice a3 A.looks.length c3, .int .i64 A.dropped, .slice a4 A.marks.length c4] 33 (0, 0))) ∧ Hid (wr.heap[bx3]? = some (.cells #[.slice pv.za P.zones.length pv.zc, .slice pv.fa P.fates.length pv.fc, .int .i64 P.ticks, .slice pv.da P.drops.length pv.dc] 26 (0, 0))) ∧ Hid (wr.heap[bx4]? = some (.cells #[.int .i8 a.f, .int .u16 a.g0, .int .u16 a.g1, .int .u16 a.g2, .int .u16 a.g3, .int .u16 a.g4, .int .u16 a.g5, .int .u16 a.g6, .int .u16 a.g7, .int .i64 a.p] 43 (0, 0))) ∧ Hid (Below w.heap.size w wr)) (fun u _ => L.length - (intOf u).toNat)
            case atStart => exact ⟨0, A0, p1, a11, c11, a12, c12, a13, c13, a14, c14, rfl, by omega, HI0, Hf7, Hx7, Hx3, Hx4, HB⟩
            case round =>
              obtain ⟨i, A, p0, a1, c1, a2, c2, a3, c3, a4, c4, rfl, hi, HI, Hf7, Hx7, Hx3, Hx4, HB⟩ := hrel
              by_cases hlt : i < L.length
              · have hki : (i : Int) < (L.length : Int) := by omega
                have hkw : IntKind.i64.wrap ((i : Int) + 1) = (i : Int) + 1 := by rw [IntKind.wrap_i64]; omega
                have HRm := Lib.hid (HI.out.room (by omega) HFew.out HCk.out.2.2.1.2 HMm.out)
                have HPA := Lib.hid HI.out.plan
                obtain ⟨A1, hA1⟩ : ∃ X, X = oneMore P A a i false false := ⟨_, rfl⟩
                have hD1 := (HI.out.dialP HMA.out.symm).symm
                have hD2 := (HI.out.dialE HMA.out.symm).symm
                rw [← hA1] at hD1
                obtain ⟨⟨x4_c0, x4_c1, x4_c2, x4_c3, x4_c4, x4_c5, x4_c6, x4_c7, x4_c8, x4_c9⟩, x4_f0, x4_f1, x4_f2, x4_f3, x4_f4, x4_f5, x4_f6, x4_f7, x4_f8, x4_f9⟩ := boxes10 Hx4.out
                obtain ⟨⟨x7_c0, x7_c1, x7_c2, x7_c3, x7_c4, x7_c5, x7_c6, x7_c7, x7_c8, x7_c9⟩, x7_f0, x7_f1, x7_f2, x7_f3, x7_f4, x7_f5, x7_f6, x7_f7, x7_f8, x7_f9⟩ := boxes10 Hx7.out
                have HX := Lib.hid (HDl.out (fun b => b ∈ ([bx7] : List Nat)) A ⟨p0, a1, c1, a2, c2, a3, c3, a4, c4⟩ i wr A1 0 (by have := lt_of_block Hx7.out; intro b hb; simp only [List.mem_cons, List.not_mem_nil, or_false] at hb <;> omega) HRm.out Hf7.out hD1 hD2)
                try simp only [Wv.val, Wv.cells] at HX
                clear hD1 hD2
                go_wp2_with fail
                with_reducible refine HX.out.mono ?_
                rintro e wF ⟨⟨pd, ad1, cd1, ad2, cd2, ad3, cd3, ad4, cd4⟩, rfl, hfl, hb⟩
                have HA1 := Lib.hid hA1
                clear hA1
                clear x4_c0 x4_c1 x4_c2 x4_c3 x4_c4 x4_c5 x4_c6 x4_c7 x4_c8 x4_c9 x4_f0 x4_f1 x4_f2 x4_f3 x4_f4 x4_f5 x4_f6 x4_f7 x4_f8 x4_f9 x7_c0 x7_c1 x7_c2 x7_c3 x7_c4 x7_c5 x7_c6 x7_c7 x7_c8 x7_c9 x7_f0 x7_f1 x7_f2 x7_f3 x7_f4 x7_f5 x7_f6 x7_f7 x7_f8 x7_f9
                replace Hx3 := Lib.hid ((hb.block _ (lt_of_block Hx3.out)).trans Hx3.out)
                replace Hx4 := Lib.hid ((hb.block _ (lt_of_block Hx4.out)).trans Hx4.out)
                replace Hx7 := Lib.hid ((hb.block _ (lt_of_block Hx7.out)).trans Hx7.out)
                replace Hf7 := Lib.hid (Hf7.out.below hb)
                replace HB := Lib.hid (HB.out.trans (hb.mono HB.out.size))
                have Hf12 := Lib.hid hfl
                clear hb hfl HX
                simp only [Wv.val, Wv.cells, Lt.v]
                have HRm1 := Lib.hid (show Room A1 from by rw [HA1.out]; exact (HI.out.more false false).room (by omega) HFew.out HCk.out.2.2.1.2 HMm.out)
                have HP1 := Lib.hid (show A1.plan = P from by rw [HA1.out]; exact HI.out.plan)
                obtain ⟨⟨x4_c0, x4_c1, x4_c2, x4_c3, x4_c4, x4_c5, x4_c6, x4_c7, x4_c8, x4_c9⟩, x4_f0, x4_f1, x4_f2, x4_f3, x4_f4, x4_f5, x4_f6, x4_f7, x4_f8, x4_f9⟩ := boxes10 Hx4.out
                obtain ⟨⟨x7_c0, x7_c1, x7_c2, x7_c3, x7_c4, x7_c5, x7_c6, x7_c7, x7_c8, x7_c9⟩, x7_f0, x7_f1, x7_f2, x7_f3, x7_f4, x7_f5, x7_f6, x7_f7, x7_f8, x7_f9⟩ := boxes10 Hx7.out
                go_upto_region 10 with fail
                clear x4_c0 x4_c1 x4_c2 x4_c3 x4_c4 x4_c5 x4_c6 x4_c7 x4_c8 x4_c9 x4_f0 x4_f1 x4_f2 x4_f3 x4_f4 x4_f5 x4_f6 x4_f7 x4_f8 x4_f9 x7_c0 x7_c1 x7_c2 x7_c3 x7_c4 x7_c5 x7_c6 x7_c7 x7_c8 x7_c9 x7_f0 x7_f1 x7_f2 x7_f3 x7_f4 x7_f5 x7_f6 x7_f7 x7_f8 x7_f9
                obtain ⟨bx12, hdx12⟩ : ∃ b, b = wF.heap.size := ⟨_, rfl⟩
                have hgex12 : w.heap.size ≤ bx12 := by rw [hdx12]; exact HB.out.size
                have hltx3x12 : bx3 < bx12 := by rw [hdx12]; exact lt_of_block Hx3.out
                have hltx4x12 : bx4 < bx12 := by rw [hdx12]; exact lt_of_block Hx4.out
                have hltx7x12 : bx7 < bx12 := by rw [hdx12]; exact lt_of_block Hx7.out
                obtain ⟨W3, hW3⟩ : ∃ X, X = wF.alloc (.cells #[.slice pd.za A1.plan.zones.length pd.zc, .slice pd.fa A1.plan.fates.length pd.fc, .int .i64 A1.plan.ticks, .slice pd.da A1.plan.drops.length pd.dc, .int .i64 A1.clock, .slice ad1 A1.socks.length cd1, .slice ad2 A1.dials.length cd2, .slice ad3 A1.looks.length cd3, .int .i64 A1.dropped, .slice ad4 A1.marks.length cd4] 33) := ⟨_, rfl⟩
                have hlx12 := laid1 wF (.cells #[.slice pd.za A1.plan.zones.length pd.zc, .slice pd.fa A1.plan.fates.length pd.fc, .int .i64 A1.plan.ticks, .slice pd.da A1.plan.drops.length pd.dc, .int .i64 A1.clock, .slice ad1 A1.socks.length cd1, .slice ad2 A1.dials.length cd2, .slice ad3 A1.looks.length cd3, .int .i64 A1.dropped, .slice ad4 A1.marks.length cd4] 33)
                have hbx12 := below1 wF (.cells #[.slice pd.za A1.plan.zones.length pd.zc, .slice pd.fa A1.plan.fates.length pd.fc, .int .i64 A1.plan.ticks, .slice pd.da A1.plan.drops.length pd.dc, .int .i64 A1.clock, .slice ad1 A1.socks.length cd1, .slice ad2 A1.dials.length cd2, .slice ad3 A1.looks.length cd3, .int .i64 A1.dropped, .slice ad4 A1.marks.length cd4] 33)
                rw [← hW3] at hlx12 hbx12 ⊢
                clear hW3
                replace Hf7 := Lib.hid (Hf7.out.more (M := (fun b => b ∈ ([bx7, bx12] : List Nat))) (by intro b hb; simp only [List.mem_cons, List.not_mem_nil, or_false] at hb ⊢ <;> (first | omega | (right; omega))))
                replace Hf12 := Lib.hid (Hf12.out.more (M := (fun b => b ∈ ([bx7, bx12] : List Nat))) (by intro b hb; simp only [List.mem_cons, List.not_mem_nil, or_false] at hb ⊢ <;> (first | omega | (right; omega))))
                replace Hx3 := Lib.hid ((hbx12.block _ (lt_of_block Hx3.out)).trans Hx3.out)
                replace Hx4 := Lib.hid ((hbx12.block _ (lt_of_block Hx4.out)).trans Hx4.out)
                replace Hx7 := Lib.hid ((hbx12.block _ (lt_of_block Hx7.out)).trans Hx7.out)
                replace Hf7 := Lib.hid (Hf7.out.below hbx12)
                replace Hf12 := Lib.hid (Hf12.out.below hbx12)
                replace HB := Lib.hid (HB.out.trans (hbx12.mono HB.out.size))
                rw [← hdx12] at hlx12 ⊢
                replace Hx12 := Lib.hid hlx12
                clear hlx12 hbx12 hdx12
                obtain ⟨ct, hct⟩ : ∃ x, L[i]? = some x := ⟨_, List.getElem?_eq_getElem hlt⟩
                obtain ⟨bc, oc, rfl, hbc, hatc⟩ := (HCL.out W3 HB.out).2.2.2 (by omega)
                have k0 := VK.one hatc hct
                clear hatc hct hbc
                obtain ⟨f, hf⟩ : ∃ f, f = fateP P a i := ⟨_, rfl⟩
                have HFv := Lib.hid hf
                have hf3 := fate_ok HOk.out HC2.out a i
                rw [← hf] at hf3
                clear hf
                cases ct with
                | false =>
                  rcases hf3 with rfl | rfl | rfl
                  · have HRY := Lib.hid (show true = readyP A1 i from by rw [HA1.out, HI.out.readyP, ← HFv.out]; rfl)
                    obtain ⟨⟨x12_c0, x12_c1, x12_c2, x12_c3, x12_c4, x12_c5, x12_c6, x12_c7, x12_c8, x12_c9⟩, x12_f0, x12_f1, x12_f2, x12_f3, x12_f4, x12_f5, x12_f6, x12_f7, x12_f8, x12_f9⟩ := boxes10 Hx12.out
                    obtain ⟨⟨x7_c0, x7_c1, x7_c2, x7_c3, x7_c4, x7_c5, x7_c6, x7_c7, x7_c8, x7_c9⟩, x7_f0, x7_f1, x7_f2, x7_f3, x7_f4, x7_f5, x7_f6, x7_f7, x7_f8, x7_f9⟩ := boxes10 Hx7.out
                    have HX := Lib.hid (HRd.out A1 ⟨pd, ad1, cd1, ad2, cd2, ad3, cd3, ad4, cd4⟩ i W3 true HRm1.out Hf12.out.world HRY.out)
                    try simp only [Wv.val, Wv.cells] at HX
                    go_wp2_with fail
                    with_reducible refine HX.out.mono ?_
                    rintro e wH ⟨rfl, hb⟩
                    clear x12_c0 x12_c1 x12_c2 x12_c3 x12_c4 x12_c5 x12_c6 x12_c7 x12_c8 x12_c9 x12_f0 x12_f1 x12_f2 x12_f3 x12_f4 x12_f5 x12_f6 x12_f7 x12_f8 x12_f9 x7_c0 x7_c1 x7_c2 x7_c3 x7_c4 x7_c5 x7_c6 x7_c7 x7_c8 x7_c9 x7_f0 x7_f1 x7_f2 x7_f3 x7_f4 x7_f5 x7_f6 x7_f7 x7_f8 x7_f9
                    replace Hx3 := Lib.hid ((hb.block _ (lt_of_block Hx3.out)).trans Hx3.out)
                    replace Hx4 := Lib.hid ((hb.block _ (lt_of_block Hx4.out)).trans Hx4.out)
                    replace Hx7 := Lib.hid ((hb.block _ (lt_of_block Hx7.out)).trans Hx7.out)
                    replace Hx12 := Lib.hid ((hb.block _ (lt_of_block Hx12.out)).trans Hx12.out)
                    replace Hf7 := Lib.hid (Hf7.out.below hb)
                    replace Hf12 := Lib.hid (Hf12.out.below hb)
                    replace HB := Lib.hid (HB.out.trans (hb.mono HB.out.size))
                    clear hb HX
                    obtain ⟨E, hE⟩ : ∃ X, X = endOf P A a i false := ⟨_, rfl⟩
                    obtain ⟨M, hM⟩ : ∃ X : Lt, X = ⟨11, 0, 0, A.socks.length, { data := #[] }, 0⟩ := ⟨_, rfl⟩
                    have hrd : readyD ⟨i, a, fateP P a i, false, false⟩ = true := by rw [← HFv.out]; rfl
                    have h1 := (HI.out.endP hrd).symm
                    have h2 := (HI.out.endM hrd).symm
                    have h3 := (HI.out.endE hrd).symm
                    rw [← hE, ← HA1.out] at h1
                    rw [← HA1.out, ← HFv.out] at h2
                    rw [← HA1.out] at h3
                    have h2 : M = endM A1 i := by rw [hM, ← h2]; rfl
                    obtain ⟨⟨x12_c0, x12_c1, x12_c2, x12_c3, x12_c4, x12_c5, x12_c6, x12_c7, x12_c8, x12_c9⟩, x12_f0, x12_f1, x12_f2, x12_f3, x12_f4, x12_f5, x12_f6, x12_f7, x12_f8, x12_f9⟩ := boxes10 Hx12.out
                    have HX := Lib.hid (HEn.out (fun b => b ∈ ([bx7, bx12] : List Nat)) A1 ⟨pd, ad1, cd1, ad2, cd2, ad3, cd3, ad4, cd4⟩ i wH E M 0 (by have := lt_of_block Hx7.out; have := lt_of_block Hx12.out; intro b hb; simp only [List.mem_cons, List.not_mem_nil, or_false] at hb <;> omega) HRm1.out Hf12.out h1 h2 h3)
                    try simp only [Wv.val, Wv.cells] at HX
                    clear h1 h2 h3 hrd
                    go_wp2_with fail
                    with_reducible refine HX.out.mono ?_
                    rintro e wJ ⟨⟨pe, ae1, ce1, ae2, ce2, ae3, ce3, ae4, ce4⟩, rfl, hfl, hb⟩
                    have HEE := Lib.hid hE
                    have HMe := Lib.hid (show M.e = 0 by rw [hM])
                    clear hE hM
                    clear x12_c0 x12_c1 x12_c2 x12_c3 x12_c4 x12_c5 x12_c6 x12_c7 x12_c8 x12_c9 x12_f0 x12_f1 x12_f2 x12_f3 x12_f4 x12_f5 x12_f6 x12_f7 x12_f8 x12_f9
                    replace Hx3 := Lib.hid ((hb.block _ (lt_of_block Hx3.out)).trans Hx3.out)
                    replace Hx4 := Lib.hid ((hb.block _ (lt_of_block Hx4.out)).trans Hx4.out)
                    replace Hx7 := Lib.hid ((hb.block _ (lt_of_block Hx7.out)).trans Hx7.out)
                    replace Hx12 := Lib.hid ((hb.block _ (lt_of_block Hx12.out)).trans Hx12.out)
                    replace Hf7 := Lib.hid (Hf7.out.below hb)
                    replace Hf12 := Lib.hid (Hf12.out.below hb)
                    replace HB := Lib.hid (HB.out.trans (hb.mono HB.out.size))
                    have Hf14 := Lib.hid hfl
                    clear hb hfl HX
                    simp only [Wv.val, Wv.cells, Lt.v]
                    have HI2 := Lib.hid (show FatesInv P a E (i + 1) from by rw [HEE.out]; exact HI.out.ended false)
                    obtain ⟨⟨x12_c0, x12_c1, x12_c2, x12_c3, x12_c4, x12_c5, x12_c6, x12_c7, x12_c8, x12_c9⟩, x12_f0, x12_f1, x12_f2, x12_f3, x12_f4, x12_f5, x12_f6, x12_f7, x12_f8, x12_f9⟩ := boxes10 Hx12.out
                    go_upto_region 21 with fail
                    clear x12_c0 x12_c1 x12_c2 x12_c3 x12_c4 x12_c5 x12_c6 x12_c7 x12_c8 x12_c9 x12_f0 x12_f1 x12_f2 x12_f3 x12_f4 x12_f5 x12_f6 x12_f7 x12_f8 x12_f9
                    obtain ⟨bx14, hdx14⟩ : ∃ b, b = wJ.heap.size := ⟨_, rfl⟩
                    have hgex14 : w.heap.size ≤ bx14 := by rw [hdx14]; exact HB.out.size
                    have hl2 := laid2 wJ (.cells #[.slice pe.za E.plan.zones.length pe.zc, .slice pe.fa E.plan.fates.length pe.fc, .int .i64 E.plan.ticks, .slice pe.da E.plan.drops.length pe.dc, .int .i64 E.clock, .slice ae1 E.socks.length ce1, .slice ae2 E.dials.length ce2, .slice ae3 E.looks.length ce3, .int .i64 E.dropped, .slice ae4 E.marks.length ce4] 33) (.cells #[.int .i8 M.kind, .int .i64 M.fr, .int .i64 M.num, .int .i64 M.sock, .string M.text, .int .i64 M.e] 52)
                    have hb2 := below2 wJ (.cells #[.slice pe.za E.plan.zones.length pe.zc, .slice pe.fa E.plan.fates.length pe.fc, .int .i64 E.plan.ticks, .slice pe.da E.plan.drops.length pe.dc, .int .i64 E.clock, .slice ae1 E.socks.length ce1, .slice ae2 E.dials.length ce2, .slice ae3 E.looks.length ce3, .int .i64 E.dropped, .slice ae4 E.marks.length ce4] 33) (.cells #[.int .i8 M.kind, .int .i64 M.fr, .int .i64 M.num, .int .i64 M.sock, .string M.text, .int .i64 M.e] 52)
                    obtain ⟨W4, hW4⟩ : ∃ X, X = (wJ.alloc (.cells #[.slice pe.za E.plan.zones.length pe.zc, .slice pe.fa E.plan.fates.length pe.fc, .int .i64 E.plan.ticks, .slice pe.da E.plan.drops.length pe.dc, .int .i64 E.clock, .slice ae1 E.socks.length ce1, .slice ae2 E.dials.length ce2, .slice ae3 E.looks.length ce3, .int .i64 E.dropped, .slice ae4 E.marks.length ce4] 33)).alloc (.cells #[.int .i8 M.kind, .int .i64 M.fr, .int .i64 M.num, .int .i64 M.sock, .string M.text, .int .i64 M.e] 52) := ⟨_, rfl⟩
                    rw [← hW4] at hl2 hb2 ⊢
                    clear hW4
                    rw [← hdx14] at hl2 ⊢
                    obtain ⟨bx15, hdx15⟩ : ∃ b, b = bx14 + 1 := ⟨_, rfl⟩
                    rw [← hdx15] at hl2 ⊢
                    have hgex15 : w.heap.size ≤ bx15 := by omega
                    have hltx14x15 : bx14 < bx15 := by omega
                    have hltx3x14 : bx3 < bx14 := by have := lt_of_block Hx3.out; omega
                    have hltx3x15 : bx3 < bx15 := by have := lt_of_block Hx3.out; omega
                    have hltx4x14 : bx4 < bx14 := by have := lt_of_block Hx4.out; omega
                    have hltx4x15 : bx4 < bx15 := by have := lt_of_block Hx4.out; omega
                    have hltx7x14 : bx7 < bx14 := by have := lt_of_block Hx7.out; omega
                    have hltx7x15 : bx7 < bx15 := by have := lt_of_block Hx7.out; omega
                    have hltx12x14 : bx12 < bx14 := by have := lt_of_block Hx12.out; omega
                    have hltx12x15 : bx12 < bx15 := by have := lt_of_block Hx12.out; omega
                    replace Hf7 := Lib.hid (Hf7.out.more (M := (fun b => b ∈ ([bx7, bx12, bx14, bx15] : List Nat))) (by intro b hb; simp only [List.mem_cons, List.not_mem_nil, or_false] at hb ⊢ <;> (first | omega | (right; omega))))
                    replace Hf12 := Lib.hid (Hf12.out.more (M := (fun b => b ∈ ([bx7, bx12, bx14, bx15] : List Nat))) (by intro b hb; simp only [List.mem_cons, List.not_mem_nil, or_false] at hb ⊢ <;> (first | omega | (right; omega))))
                    replace Hf14 := Lib.hid (Hf14.out.more (M := (fun b => b ∈ ([bx7, bx12, bx14, bx15] : List Nat))) (by intro b hb; simp only [List.mem_cons, List.not_mem_nil, or_false] at hb ⊢ <;> (first | omega | (right; omega))))
                    replace Hx3 := Lib.hid ((hb2.block _ (lt_of_block Hx3.out)).trans Hx3.out)
                    replace Hx4 := Lib.hid ((hb2.block _ (lt_of_block Hx4.out)).trans Hx4.out)
                    replace Hx7 := Lib.hid ((hb2.block _ (lt_of_block Hx7.out)).trans Hx7.out)
                    replace Hx12 := Lib.hid ((hb2.block _ (lt_of_block Hx12.out)).trans Hx12.out)
                    replace Hf7 := Lib.hid (Hf7.out.below hb2)
                    replace Hf12 := Lib.hid (Hf12.out.below hb2)
                    replace Hf14 := Lib.hid (Hf14.out.below hb2)
                    replace HB := Lib.hid (HB.out.trans (hb2.mono HB.out.size))
                    replace Hx14 := Lib.hid hl2.1
                    replace Hx15 := Lib.hid hl2.2
                    clear hl2 hb2 hdx14 hdx15
                    have hn : nn = false := by
                      cases nn with
                      | false => rfl
                      | true => have := fate_none (HNn.out rfl) a i; rw [← HFv.out] at this; omega
                    subst hn
                    have hES : E.socks = A.socks ++ [skNew a i 0] := by rw [HEE.out]; unfold endOf; rw [if_pos HFv.out.symm]
                    have hEl : E.socks.length = A.socks.length + 1 := by rw [hES]; simp
                    have hEx : E.socks[A.socks.length]? = some (skNew a i 0) := by rw [hES]; simp
                    obtain ⟨bs, os, hbs, hbl, hats⟩ := Hf14.out.socks.1.2.2.2 (by omega)
                    have hcs := SK.cells hats hEx
                    simp only [skNew] at hcs
                    have HCS := Lib.hid hcs
                    have hAl := row_max Hf7.out.socks.1
                    have hElm := row_max Hf14.out.socks.1
                    have HEL := Lib.hid hEl
                    clear hES hEx hats hcs hbl hEl
                    dsimp only at hbs
                    subst hbs
                    cases gd with
                    | false =>
                      have hEl := HEL.out
                      have hEi : (E.socks.length : Int) = (A.socks.length : Int) + 1 := by omega
                      have hEw : IntKind.i64.wrap ((A.socks.length : Int) + 1) = (A.socks.length : Int) + 1 := by rw [IntKind.wrap_i64]; omega
                      have hEb : ((E.socks.length : Int) != (A.socks.length : Int) + 1) = false := by rw [hEi]; simp
                      have hAi : (A.socks.length : Int) < (E.socks.length : Int) := by omega
                      clear hEi hEl
                      obtain ⟨s0, s1, s2, s3, s4, s5, s6, s7, s8, s9, s10, _⟩ := HCS.out
                      have hnq := neq_self_ad a
                      have hgd := guard_ad
                      have hMe := HMe.out
                      obtain ⟨⟨x4_c0, x4_c1, x4_c2, x4_c3, x4_c4, x4_c5, x4_c6, x4_c7, x4_c8, x4_c9⟩, x4_f0, x4_f1, x4_f2, x4_f3, x4_f4, x4_f5, x4_f6, x4_f7, x4_f8, x4_f9⟩ := boxes10 Hx4.out
                      obtain ⟨⟨x7_c0, x7_c1, x7_c2, x7_c3, x7_c4, x7_c5, x7_c6, x7_c7, x7_c8, x7_c9⟩, x7_f0, x7_f1, x7_f2, x7_f3, x7_f4, x7_f5, x7_f6, x7_f7, x7_f8, x7_f9⟩ := boxes10 Hx7.out
                      obtain ⟨⟨x14_c0, x14_c1, x14_c2, x14_c3, x14_c4, x14_c5, x14_c6, x14_c7, x14_c8, x14_c9⟩, x14_f0, x14_f1, x14_f2, x14_f3, x14_f4, x14_f5, x14_f6, x14_f7, x14_f8, x14_f9⟩ := boxes10 Hx14.out
                      obtain ⟨⟨x15_c0, x15_c1, x15_c2, x15_c3, x15_c4, x15_c5⟩, x15_f0, x15_f1, x15_f2, x15_f3, x15_f4, x15_f5⟩ := boxes6 Hx15.out
                      go_wp2_with fail
                      go_quiet (fail)
                      clear s0 s1 s2 s3 s4 s5 s6 s7 s8 s9 s10 hnq hgd hEb hEw hMe
                      clear x4_c0 x4_c1 x4_c2 x4_c3 x4_c4 x4_c5 x4_c6 x4_c7 x4_c8 x4_c9 x4_f0 x4_f1 x4_f2 x4_f3 x4_f4 x4_f5 x4_f6 x4_f7 x4_f8 x4_f9 x7_c0 x7_c1 x7_c2 x7_c3 x7_c4 x7_c5 x7_c6 x7_c7 x7_c8 x7_c9 x7_f0 x7_f1 x7_f2 x7_f3 x7_f4 x7_f5 x7_f6 x7_f7 x7_f8 x7_f9 x14_c0 x14_c1 x14_c2 x14_c3 x14_c4 x14_c5 x14_c6 x14_c7 x14_c8 x14_c9 x14_f0 x14_f1 x14_f2 x14_f3 x14_f4 x14_f5 x14_f6 x14_f7 x14_f8 x14_f9 x15_c0 x15_c1 x15_c2 x15_c3 x15_c4 x15_c5 x15_f0 x15_f1 x15_f2 x15_f3 x15_f4 x15_f5
                      first | (obtain ⟨W5, hW5⟩ : ∃ X, X = W4.drewN nq := ⟨_, rfl⟩) | (obtain ⟨W5, hW5⟩ : ∃ X, X = W4 := ⟨_, rfl⟩)
                      have hb : Below W4.heap.size W4 W5 := by rw [hW5]; first | exact below_drewN (Below.refl _ _) _ | exact Below.refl _ _
                      rw [← hW5]
                      clear hW5
                      replace Hx3 := Lib.hid ((hb.block _ (lt_of_block Hx3.out)).trans Hx3.out)
                      replace Hx4 := Lib.hid ((hb.block _ (lt_of_block Hx4.out)).trans Hx4.out)
                      replace Hx7 := Lib.hid ((hb.block _ (lt_of_block Hx7.out)).trans Hx7.out)
                      replace Hx12 := Lib.hid ((hb.block _ (lt_of_block Hx12.out)).trans Hx12.out)
                      replace Hx14 := Lib.hid ((hb.block _ (lt_of_block Hx14.out)).trans Hx14.out)
                      replace Hx15 := Lib.hid ((hb.block _ (lt_of_block Hx15.out)).trans Hx15.out)
                      replace Hf7 := Lib.hid (Hf7.out.below hb)
                      replace Hf12 := Lib.hid (Hf12.out.below hb)
                      replace Hf14 := Lib.hid (Hf14.out.below hb)
                      replace HB := Lib.hid (HB.out.trans (hb.mono HB.out.size))
                      clear hb
                      obtain ⟨⟨x7_c0, x7_c1, x7_c2, x7_c3, x7_c4, x7_c5, x7_c6, x7_c7, x7_c8, x7_c9⟩, x7_f0, x7_f1, x7_f2, x7_f3, x7_f4, x7_f5, x7_f6, x7_f7, x7_f8, x7_f9⟩ := boxes10 Hx7.out
                      obtain ⟨⟨x14_c0, x14_c1, x14_c2, x14_c3, x14_c4, x14_c5, x14_c6, x14_c7, x14_c8, x14_c9⟩, x14_f0, x14_f1, x14_f2, x14_f3, x14_f4, x14_f5, x14_f6, x14_f7, x14_f8, x14_f9⟩ := boxes10 Hx14.out
                      go_upto_region 8 with fail
                      clear x7_c0 x7_c1 x7_c2 x7_c3 x7_c4 x7_c5 x7_c6 x7_c7 x7_c8 x7_c9 x7_f0 x7_f1 x7_f2 x7_f3 x7_f4 x7_f5 x7_f6 x7_f7 x7_f8 x7_f9 x14_c0 x14_c1 x14_c2 x14_c3 x14_c4 x14_c5 x14_c6 x14_c7 x14_c8 x14_c9 x14_f0 x14_f1 x14_f2 x14_f3 x14_f4 x14_f5 x14_f6 x14_f7 x14_f8 x14_f9
                      obtain ⟨W6, hW6⟩ : ∃ X, X = set10 W5 bx7 (.slice pe.za E.plan.zones.length pe.zc) (.slice pe.fa E.plan.fates.length pe.fc) (.int .i64 E.plan.ticks) (.slice pe.da E.plan.drops.length pe.dc) (.int .i64 E.clock) (.slice (some ⟨bs, os, none⟩) E.socks.length ce1) (.slice ae2 E.dials.length ce2) (.slice ae3 E.looks.length ce3) (.int .i64 E.dropped) (.slice ae4 E.marks.length ce4) := ⟨_, rfl⟩
                      have hqx7 := set10_at Hx7.out (.slice pe.za E.plan.zones.length pe.zc) (.slice pe.fa E.plan.fates.length pe.fc) (.int .i64 E.plan.ticks) (.slice pe.da E.plan.drops.length pe.dc) (.int .i64 E.clock) (.slice (some ⟨bs, os, none⟩) E.socks.length ce1) (.slice ae2 E.dials.length ce2) (.slice ae3 E.looks.length ce3) (.int .i64 E.dropped) (.slice ae4 E.marks.length ce4)
                      have hb := set10_below HB.out hgex7 (.slice pe.za E.plan.zones.length pe.zc) (.slice pe.fa E.plan.fates.length pe.fc) (.int .i64 E.plan.ticks) (.slice pe.da E.plan.drops.length pe.dc) (.int .i64 E.clock) (.slice (some ⟨bs, os, none⟩) E.socks.length ce1) (.slice ae2 E.dials.length ce2) (.slice ae3 E.looks.length ce3) (.int .i64 E.dropped) (.slice ae4 E.marks.length ce4)
                      have hqx3 := (set10_other W5 bx7 bx3 (.slice pe.za E.plan.zones.length pe.zc) (.slice pe.fa E.plan.fates.length pe.fc) (.int .i64 E.plan.ticks) (.slice pe.da E.plan.drops.length pe.dc) (.int .i64 E.clock) (.slice (some ⟨bs, os, none⟩) E.socks.length ce1) (.slice ae2 E.dials.length ce2) (.slice ae3 E.looks.length ce3) (.int .i64 E.dropped) (.slice ae4 E.marks.length ce4) (by omega)).trans Hx3.out
                      have hqx4 := (set10_other W5 bx7 bx4 (.slice pe.za E.plan.zones.length pe.zc) (.slice pe.fa E.plan.fates.length pe.fc) (.int .i64 E.plan.ticks) (.slice pe.da E.plan.drops.length pe.dc) (.int .i64 E.clock) (.slice (some ⟨bs, os, none⟩) E.socks.length ce1) (.slice ae2 E.dials.length ce2) (.slice ae3 E.looks.length ce3) (.int .i64 E.dropped) (.slice ae4 E.marks.length ce4) (by omega)).trans Hx4.out
                      have hqx12 := (set10_other W5 bx7 bx12 (.slice pe.za E.plan.zones.length pe.zc) (.slice pe.fa E.plan.fates.length pe.fc) (.int .i64 E.plan.ticks) (.slice pe.da E.plan.drops.length pe.dc) (.int .i64 E.clock) (.slice (some ⟨bs, os, none⟩) E.socks.length ce1) (.slice ae2 E.dials.length ce2) (.slice ae3 E.looks.length ce3) (.int .i64 E.dropped) (.slice ae4 E.marks.length ce4) (by omega)).trans Hx12.out
                      have hqx14 := (set10_other W5 bx7 bx14 (.slice pe.za E.plan.zones.length pe.zc) (.slice pe.fa E.plan.fates.length pe.fc) (.int .i64 E.plan.ticks) (.slice pe.da E.plan.drops.length pe.dc) (.int .i64 E.clock) (.slice (some ⟨bs, os, none⟩) E.socks.length ce1) (.slice ae2 E.dials.length ce2) (.slice ae3 E.looks.length ce3) (.int .i64 E.dropped) (.slice ae4 E.marks.length ce4) (by omega)).trans Hx14.out
                      have hqx15 := (set10_other W5 bx7 bx15 (.slice pe.za E.plan.zones.length pe.zc) (.slice pe.fa E.plan.fates.length pe.fc) (.int .i64 E.plan.ticks) (.slice pe.da E.plan.drops.length pe.dc) (.int .i64 E.clock) (.slice (some ⟨bs, os, none⟩) E.socks.length ce1) (.slice ae2 E.dials.length ce2) (.slice ae3 E.looks.length ce3) (.int .i64 E.dropped) (.slice ae4 E.marks.length ce4) (by omega)).trans Hx15.out
                      have hqf7 := set10_flat (b := bx7) Hf7.out (by simp) (.slice pe.za E.plan.zones.length pe.zc) (.slice pe.fa E.plan.fates.length pe.fc) (.int .i64 E.plan.ticks) (.slice pe.da E.plan.drops.length pe.dc) (.int .i64 E.clock) (.slice (some ⟨bs, os, none⟩) E.socks.length ce1) (.slice ae2 E.dials.length ce2) (.slice ae3 E.looks.length ce3) (.int .i64 E.dropped) (.slice ae4 E.marks.length ce4)
                      have hqf12 := set10_flat (b := bx7) Hf12.out (by simp) (.slice pe.za E.plan.zones.length pe.zc) (.slice pe.fa E.plan.fates.length pe.fc) (.int .i64 E.plan.ticks) (.slice pe.da E.plan.drops.length pe.dc) (.int .i64 E.clock) (.slice (some ⟨bs, os, none⟩) E.socks.length ce1) (.slice ae2 E.dials.length ce2) (.slice ae3 E.looks.length ce3) (.int .i64 E.dropped) (.slice ae4 E.marks.length ce4)
                      have hqf14 := set10_flat (b := bx7) Hf14.out (by simp) (.slice pe.za E.plan.zones.length pe.zc) (.slice pe.fa E.plan.fates.length pe.fc) (.int .i64 E.plan.ticks) (.slice pe.da E.plan.drops.length pe.dc) (.int .i64 E.clock) (.slice (some ⟨bs, os, none⟩) E.socks.length ce1) (.slice ae2 E.dials.length ce2) (.slice ae3 E.looks.length ce3) (.int .i64 E.dropped) (.slice ae4 E.marks.length ce4)
                      rw [← hW6] at hqx7 hb hqx3 hqx4 hqx12 hqx14 hqx15 hqf7 hqf12 hqf14
                      unfold set10 at hW6
                      rw [← hW6]
                      clear hW6
                      replace HB := Lib.hid hb
                      replace Hx3 := Lib.hid hqx3
                      replace Hx4 := Lib.hid hqx4
                      replace Hx7 := Lib.hid hqx7
                      replace Hx12 := Lib.hid hqx12
                      replace Hx14 := Lib.hid hqx14
                      replace Hx15 := Lib.hid hqx15
                      replace Hf7 := Lib.hid hqf7
                      replace Hf12 := Lib.hid hqf12
                      replace Hf14 := Lib.hid hqf14
                      clear hqx7 hb hqx3 hqx4 hqx12 hqx14 hqx15 hqf7 hqf12 hqf14
                      have Hrow := Lib.hid (Hf14.out.more (M := (fun b => b ∈ ([bx7] : List Nat))) (by intro b hb; simp only [List.mem_cons, List.not_mem_nil, or_false] at hb ⊢ <;> (first | omega | (right; omega))))
                      have HB := Lib.hid HB.out
                      go_wp2_with fail
                      go_roundw
                      case rel => exact ⟨i + 1, E, pe, (some ⟨bs, os, none⟩), ce1, ae2, ce2, ae3, ce3, ae4, ce4, by go_num, by omega, HI2, Hrow, Hx7, Hx3, Hx4, HB⟩
                      case measure => simp [intOf]; omega
                    | true =>
                      have hEl := HEL.out
                      have hEi : (E.socks.length : Int) = (A.socks.length : Int) + 1 := by omega
                      have hEw : IntKind.i64.wrap ((A.socks.length : Int) + 1) = (A.socks.length : Int) + 1 := by rw [IntKind.wrap_i64]; omega
                      have hEb : ((E.socks.length : Int) != (A.socks.length : Int) + 1) = false := by rw [hEi]; simp
                      have hAi : (A.socks.length : Int) < (E.socks.length : Int) := by omega
                      clear hEi hEl
                      obtain ⟨s0, s1, s2, s3, s4, s5, s6, s7, s8, s9, s10, _⟩ := HCS.out
                      have hnq := neq_self_ad a
                      have hgd := guard_ad
                      have hMe := HMe.out
                      obtain ⟨⟨x4_c0, x4_c1, x4_c2, x4_c3, x4_c4, x4_c5, x4_c6, x4_c7, x4_c8, x4_c9⟩, x4_f0, x4_f1, x4_f2, x4_f3, x4_f4, x4_f5, x4_f6, x4_f7, x4_f8, x4_f9⟩ := boxes10 Hx4.out
                      obtain ⟨⟨x7_c0, x7_c1, x7_c2, x7_c3, x7_c4, x7_c5, x7_c6, x7_c7, x7_c8, x7_c9⟩, x7_f0, x7_f1, x7_f2, x7_f3, x7_f4, x7_f5, x7_f6, x7_f7, x7_f8, x7_f9⟩ := boxes10 Hx7.out
                      obtain ⟨⟨x14_c0, x14_c1, x14_c2, x14_c3, x14_c4, x14_c5, x14_c6, x14_c7, x14_c8, x14_c9⟩, x14_f0, x14_f1, x14_f2, x14_f3, x14_f4, x14_f5, x14_f6, x14_f7, x14_f8, x14_f9⟩ := boxes10 Hx14.out
                      obtain ⟨⟨x15_c0, x15_c1, x15_c2, x15_c3, x15_c4, x15_c5⟩, x15_f0, x15_f1, x15_f2, x15_f3, x15_f4, x15_f5⟩ := boxes6 Hx15.out
                      go_wp2_with fail
                      go_quiet (fail)
                      clear s0 s1 s2 s3 s4 s5 s6 s7 s8 s9 s10 hnq hgd hEb hEw hMe
                      clear x4_c0 x4_c1 x4_c2 x4_c3 x4_c4 x4_c5 x4_c6 x4_c7 x4_c8 x4_c9 x4_f0 x4_f1 x4_f2 x4_f3 x4_f4 x4_f5 x4_f6 x4_f7 x4_f8 x4_f9 x7_c0 x7_c1 x7_c2 x7_c3 x7_c4 x7_c5 x7_c6 x7_c7 x7_c8 x7_c9 x7_f0 x7_f1 x7_f2 x7_f3 x7_f4 x7_f5 x7_f6 x7_f7 x7_f8 x7_f9 x14_c0 x14_c1 x14_c2 x14_c3 x14_c4 x14_c5 x14_c6 x14_c7 x14_c8 x14_c9 x14_f0 x14_f1 x14_f2 x14_f3 x14_f4 x14_f5 x14_f6 x14_f7 x14_f8 x14_f9 x15_c0 x15_c1 x15_c2 x15_c3 x15_c4 x15_c5 x15_f0 x15_f1 x15_f2 x15_f3 x15_f4 x15_f5
                      first | (obtain ⟨W5, hW5⟩ : ∃ X, X = W4.drewN nq := ⟨_, rfl⟩) | (obtain ⟨W5, hW5⟩ : ∃ X, X = W4 := ⟨_, rfl⟩)
                      have hb : Below W4.heap.size W4 W5 := by rw [hW5]; first | exact below_drewN (Below.refl _ _) _ | exact Below.refl _ _
                      rw [← hW5]
                      clear hW5
                      replace Hx3 := Lib.hid ((hb.block _ (lt_of_block Hx3.out)).trans Hx3.out)
                      replace Hx4 := Lib.hid ((hb.block _ (lt_of_block Hx4.out)).trans Hx4.out)
                      replace Hx7 := Lib.hid ((hb.block _ (lt_of_block Hx7.out)).trans Hx7.out)
                      replace Hx12 := Lib.hid ((hb.block _ (lt_of_block Hx12.out)).trans Hx12.out)
                      replace Hx14 := Lib.hid ((hb.block _ (lt_of_block Hx14.out)).trans Hx14.out)
                      replace Hx15 := Lib.hid ((hb.block _ (lt_of_block Hx15.out)).trans Hx15.out)
                      replace Hf7 := Lib.hid (Hf7.out.below hb)
                      replace Hf12 := Lib.hid (Hf12.out.below hb)
                      replace Hf14 := Lib.hid (Hf14.out.below hb)
                      replace HB := Lib.hid (HB.out.trans (hb.mono HB.out.size))
                      clear hb
                      obtain ⟨⟨x7_c0, x7_c1, x7_c2, x7_c3, x7_c4, x7_c5, x7_c6, x7_c7, x7_c8, x7_c9⟩, x7_f0, x7_f1, x7_f2, x7_f3, x7_f4, x7_f5, x7_f6, x7_f7, x7_f8, x7_f9⟩ := boxes10 Hx7.out
                      obtain ⟨⟨x14_c0, x14_c1, x14_c2, x14_c3, x14_c4, x14_c5, x14_c6, x14_c7, x14_c8, x14_c9⟩, x14_f0, x14_f1, x14_f2, x14_f3, x14_f4, x14_f5, x14_f6, x14_f7, x14_f8, x14_f9⟩ := boxes10 Hx14.out
                      go_upto_region 8 with fail
                      clear x7_c0 x7_c1 x7_c2 x7_c3 x7_c4 x7_c5 x7_c6 x7_c7 x7_c8 x7_c9 x7_f0 x7_f1 x7_f2 x7_f3 x7_f4 x7_f5 x7_f6 x7_f7 x7_f8 x7_f9 x14_c0 x14_c1 x14_c2 x14_c3 x14_c4 x14_c5 x14_c6 x14_c7 x14_c8 x14_c9 x14_f0 x14_f1 x14_f2 x14_f3 x14_f4 x14_f5 x14_f6 x14_f7 x14_f8 x14_f9
                      obtain ⟨W6, hW6⟩ : ∃ X, X = set10 W5 bx7 (.slice pe.za E.plan.zones.length pe.zc) (.slice pe.fa E.plan.fates.length pe.fc) (.int .i64 E.plan.ticks) (.slice pe.da E.plan.drops.length pe.dc) (.int .i64 E.clock) (.slice (some ⟨bs, os, none⟩) E.socks.length ce1) (.slice ae2 E.dials.length ce2) (.slice ae3 E.looks.length ce3) (.int .i64 E.dropped) (.slice ae4 E.marks.length ce4) := ⟨_, rfl⟩
                      have hqx7 := set10_at Hx7.out (.slice pe.za E.plan.zones.length pe.zc) (.slice pe.fa E.plan.fates.length pe.fc) (.int .i64 E.plan.ticks) (.slice pe.da E.plan.drops.length pe.dc) (.int .i64 E.clock) (.slice (some ⟨bs, os, none⟩) E.socks.length ce1) (.slice ae2 E.dials.length ce2) (.slice ae3 E.looks.length ce3) (.int .i64 E.dropped) (.slice ae4 E.marks.length ce4)
                      have hb := set10_below HB.out hgex7 (.slice pe.za E.plan.zones.length pe.zc) (.slice pe.fa E.plan.fates.length pe.fc) (.int .i64 E.plan.ticks) (.slice pe.da E.plan.drops.length pe.dc) (.int .i64 E.clock) (.slice (some ⟨bs, os, none⟩) E.socks.length ce1) (.slice ae2 E.dials.length ce2) (.slice ae3 E.looks.length ce3) (.int .i64 E.dropped) (.slice ae4 E.marks.length ce4)
                      have hqx3 := (set10_other W5 bx7 bx3 (.slice pe.za E.plan.zones.length pe.zc) (.slice pe.fa E.plan.fates.length pe.fc) (.int .i64 E.plan.ticks) (.slice pe.da E.plan.drops.length pe.dc) (.int .i64 E.clock) (.slice (some ⟨bs, os, none⟩) E.socks.length ce1) (.slice ae2 E.dials.length ce2) (.slice ae3 E.looks.length ce3) (.int .i64 E.dropped) (.slice ae4 E.marks.length ce4) (by omega)).trans Hx3.out
                      have hqx4 := (set10_other W5 bx7 bx4 (.slice pe.za E.plan.zones.length pe.zc) (.slice pe.fa E.plan.fates.length pe.fc) (.int .i64 E.plan.ticks) (.slice pe.da E.plan.drops.length pe.dc) (.int .i64 E.clock) (.slice (some ⟨bs, os, none⟩) E.socks.length ce1) (.slice ae2 E.dials.length ce2) (.slice ae3 E.looks.length ce3) (.int .i64 E.dropped) (.slice ae4 E.marks.length ce4) (by omega)).trans Hx4.out
                      have hqx12 := (set10_other W5 bx7 bx12 (.slice pe.za E.plan.zones.length pe.zc) (.slice pe.fa E.plan.fates.length pe.fc) (.int .i64 E.plan.ticks) (.slice pe.da E.plan.drops.length pe.dc) (.int .i64 E.clock) (.slice (some ⟨bs, os, none⟩) E.socks.length ce1) (.slice ae2 E.dials.length ce2) (.slice ae3 E.looks.length ce3) (.int .i64 E.dropped) (.slice ae4 E.marks.length ce4) (by omega)).trans Hx12.out
                      have hqx14 := (set10_other W5 bx7 bx14 (.slice pe.za E.plan.zones.length pe.zc) (.slice pe.fa E.plan.fates.length pe.fc) (.int .i64 E.plan.ticks) (.slice pe.da E.plan.drops.length pe.dc) (.int .i64 E.clock) (.slice (some ⟨bs, os, none⟩) E.socks.length ce1) (.slice ae2 E.dials.length ce2) (.slice ae3 E.looks.length ce3) (.int .i64 E.dropped) (.slice ae4 E.marks.length ce4) (by omega)).trans Hx14.out
                      have hqx15 := (set10_other W5 bx7 bx15 (.slice pe.za E.plan.zones.length pe.zc) (.slice pe.fa E.plan.fates.length pe.fc) (.int .i64 E.plan.ticks) (.slice pe.da E.plan.drops.length pe.dc) (.int .i64 E.clock) (.slice (some ⟨bs, os, none⟩) E.socks.length ce1) (.slice ae2 E.dials.length ce2) (.slice ae3 E.looks.length ce3) (.int .i64 E.dropped) (.slice ae4 E.marks.length ce4) (by omega)).trans Hx15.out
                      have hqf7 := set10_flat (b := bx7) Hf7.out (by simp) (.slice pe.za E.plan.zones.length pe.zc) (.slice pe.fa E.plan.fates.length pe.fc) (.int .i64 E.plan.ticks) (.slice pe.da E.plan.drops.length pe.dc) (.int .i64 E.clock) (.slice (some ⟨bs, os, none⟩) E.socks.length ce1) (.slice ae2 E.dials.length ce2) (.slice ae3 E.looks.length ce3) (.int .i64 E.dropped) (.slice ae4 E.marks.length ce4)
                      have hqf12 := set10_flat (b := bx7) Hf12.out (by simp) (.slice pe.za E.plan.zones.length pe.zc) (.slice pe.fa E.plan.fates.length pe.fc) (.int .i64 E.plan.ticks) (.slice pe.da E.plan.drops.length pe.dc) (.int .i64 E.clock) (.slice (some ⟨bs, os, none⟩) E.socks.length ce1) (.slice ae2 E.dials.length ce2) (.slice ae3 E.looks.length ce3) (.int .i64 E.dropped) (.slice ae4 E.marks.length ce4)
                      have hqf14 := set10_flat (b := bx7) Hf14.out (by simp) (.slice pe.za E.plan.zones.length pe.zc) (.slice pe.fa E.plan.fates.length pe.fc) (.int .i64 E.plan.ticks) (.slice pe.da E.plan.drops.length pe.dc) (.int .i64 E.clock) (.slice (some ⟨bs, os, none⟩) E.socks.length ce1) (.slice ae2 E.dials.length ce2) (.slice ae3 E.looks.length ce3) (.int .i64 E.dropped) (.slice ae4 E.marks.length ce4)
                      rw [← hW6] at hqx7 hb hqx3 hqx4 hqx12 hqx14 hqx15 hqf7 hqf12 hqf14
                      unfold set10 at hW6
                      rw [← hW6]
                      clear hW6
                      replace HB := Lib.hid hb
                      replace Hx3 := Lib.hid hqx3
                      replace Hx4 := Lib.hid hqx4
                      replace Hx7 := Lib.hid hqx7
                      replace Hx12 := Lib.hid hqx12
                      replace Hx14 := Lib.hid hqx14
                      replace Hx15 := Lib.hid hqx15
                      replace Hf7 := Lib.hid hqf7
                      replace Hf12 := Lib.hid hqf12
                      replace Hf14 := Lib.hid hqf14
                      clear hqx7 hb hqx3 hqx4 hqx12 hqx14 hqx15 hqf7 hqf12 hqf14
                      have Hrow := Lib.hid (Hf14.out.more (M := (fun b => b ∈ ([bx7] : List Nat))) (by intro b hb; simp only [List.mem_cons, List.not_mem_nil, or_false] at hb ⊢ <;> (first | omega | (right; omega))))
                      have HB := Lib.hid HB.out
                      go_wp2_with fail
                      go_roundw
                      case rel => exact ⟨i + 1, E, pe, (some ⟨bs, os, none⟩), ce1, ae2, ce2, ae3, ce3, ae4, ce4, by go_num, by omega, HI2, Hrow, Hx7, Hx3, Hx4, HB⟩
                      case measure => simp [intOf]; omega
                  · have HRY := Lib.hid (show true = readyP A1 i from by rw [HA1.out, HI.out.readyP, ← HFv.out]; rfl)
                    obtain ⟨⟨x12_c0, x12_c1, x12_c2, x12_c3, x12_c4, x12_c5, x12_c6, x12_c7, x12_c8, x12_c9⟩, x12_f0, x12_f1, x12_f2, x12_f3, x12_f4, x12_f5, x12_f6, x12_f7, x12_f8, x12_f9⟩ := boxes10 Hx12.out
                    obtain ⟨⟨x7_c0, x7_c1, x7_c2, x7_c3, x7_c4, x7_c5, x7_c6, x7_c7, x7_c8, x7_c9⟩, x7_f0, x7_f1, x7_f2, x7_f3, x7_f4, x7_f5, x7_f6, x7_f7, x7_f8, x7_f9⟩ := boxes10 Hx7.out
                    have HX := Lib.hid (HRd.out A1 ⟨pd, ad1, cd1, ad2, cd2, ad3, cd3, ad4, cd4⟩ i W3 true HRm1.out Hf12.out.world HRY.out)
                    try simp only [Wv.val, Wv.cells] at HX
                    go_wp2_with fail
                    with_reducible refine HX.out.mono ?_
                    rintro e wH ⟨rfl, hb⟩
                    clear x12_c0 x12_c1 x12_c2 x12_c3 x12_c4 x12_c5 x12_c6 x12_c7 x12_c8 x12_c9 x12_f0 x12_f1 x12_f2 x12_f3 x12_f4 x12_f5 x12_f6 x12_f7 x12_f8 x12_f9 x7_c0 x7_c1 x7_c2 x7_c3 x7_c4 x7_c5 x7_c6 x7_c7 x7_c8 x7_c9 x7_f0 x7_f1 x7_f2 x7_f3 x7_f4 x7_f5 x7_f6 x7_f7 x7_f8 x7_f9
                    replace Hx3 := Lib.hid ((hb.block _ (lt_of_block Hx3.out)).trans Hx3.out)
                    replace Hx4 := Lib.hid ((hb.block _ (lt_of_block Hx4.out)).trans Hx4.out)
                    replace Hx7 := Lib.hid ((hb.block _ (lt_of_block Hx7.out)).trans Hx7.out)
                    replace Hx12 := Lib.hid ((hb.block _ (lt_of_block Hx12.out)).trans Hx12.out)
                    replace Hf7 := Lib.hid (Hf7.out.below hb)
                    replace Hf12 := Lib.hid (Hf12.out.below hb)
                    replace HB := Lib.hid (HB.out.trans (hb.mono HB.out.size))
                    clear hb HX
                    obtain ⟨E, hE⟩ : ∃ X, X = endOf P A a i false := ⟨_, rfl⟩
                    obtain ⟨M, hM⟩ : ∃ X : Lt, X = ⟨11, 0, 0, 0, { data := #[] }, 160⟩ := ⟨_, rfl⟩
                    have hrd : readyD ⟨i, a, fateP P a i, false, false⟩ = true := by rw [← HFv.out]; rfl
                    have h1 := (HI.out.endP hrd).symm
                    have h2 := (HI.out.endM hrd).symm
                    have h3 := (HI.out.endE hrd).symm
                    rw [← hE, ← HA1.out] at h1
                    rw [← HA1.out, ← HFv.out] at h2
                    rw [← HA1.out] at h3
                    have h2 : M = endM A1 i := by rw [hM, ← h2]; rfl
                    obtain ⟨⟨x12_c0, x12_c1, x12_c2, x12_c3, x12_c4, x12_c5, x12_c6, x12_c7, x12_c8, x12_c9⟩, x12_f0, x12_f1, x12_f2, x12_f3, x12_f4, x12_f5, x12_f6, x12_f7, x12_f8, x12_f9⟩ := boxes10 Hx12.out
                    have HX := Lib.hid (HEn.out (fun b => b ∈ ([bx7, bx12] : List Nat)) A1 ⟨pd, ad1, cd1, ad2, cd2, ad3, cd3, ad4, cd4⟩ i wH E M 0 (by have := lt_of_block Hx7.out; have := lt_of_block Hx12.out; intro b hb; simp only [List.mem_cons, List.not_mem_nil, or_false] at hb <;> omega) HRm1.out Hf12.out h1 h2 h3)
                    try simp only [Wv.val, Wv.cells] at HX
                    clear h1 h2 h3 hrd
                    go_wp2_with fail
                    with_reducible refine HX.out.mono ?_
                    rintro e wJ ⟨⟨pe, ae1, ce1, ae2, ce2, ae3, ce3, ae4, ce4⟩, rfl, hfl, hb⟩
                    have HEE := Lib.hid hE
                    have HMe := Lib.hid (show M.e = 160 by rw [hM])
                    clear hE hM
                    clear x12_c0 x12_c1 x12_c2 x12_c3 x12_c4 x12_c5 x12_c6 x12_c7 x12_c8 x12_c9 x12_f0 x12_f1 x12_f2 x12_f3 x12_f4 x12_f5 x12_f6 x12_f7 x12_f8 x12_f9
                    replace Hx3 := Lib.hid ((hb.block _ (lt_of_block Hx3.out)).trans Hx3.out)
                    replace Hx4 := Lib.hid ((hb.block _ (lt_of_block Hx4.out)).trans Hx4.out)
                    replace Hx7 := Lib.hid ((hb.block _ (lt_of_block Hx7.out)).trans Hx7.out)
                    replace Hx12 := Lib.hid ((hb.block _ (lt_of_block Hx12.out)).trans Hx12.out)
                    replace Hf7 := Lib.hid (Hf7.out.below hb)
                    replace Hf12 := Lib.hid (Hf12.out.below hb)
                    replace HB := Lib.hid (HB.out.trans (hb.mono HB.out.size))
                    have Hf14 := Lib.hid hfl
                    clear hb hfl HX
                    simp only [Wv.val, Wv.cells, Lt.v]
                    have HI2 := Lib.hid (show FatesInv P a E (i + 1) from by rw [HEE.out]; exact HI.out.ended false)
                    obtain ⟨⟨x12_c0, x12_c1, x12_c2, x12_c3, x12_c4, x12_c5, x12_c6, x12_c7, x12_c8, x12_c9⟩, x12_f0, x12_f1, x12_f2, x12_f3, x12_f4, x12_f5, x12_f6, x12_f7, x12_f8, x12_f9⟩ := boxes10 Hx12.out
                    go_upto_region 21 with fail
                    clear x12_c0 x12_c1 x12_c2 x12_c3 x12_c4 x12_c5 x12_c6 x12_c7 x12_c8 x12_c9 x12_f0 x12_f1 x12_f2 x12_f3 x12_f4 x12_f5 x12_f6 x12_f7 x12_f8 x12_f9
                    obtain ⟨bx14, hdx14⟩ : ∃ b, b = wJ.heap.size := ⟨_, rfl⟩
                    have hgex14 : w.heap.size ≤ bx14 := by rw [hdx14]; exact HB.out.size
                    have hl2 := laid2 wJ (.cells #[.slice pe.za E.plan.zones.length pe.zc, .slice pe.fa E.plan.fates.length pe.fc, .int .i64 E.plan.ticks, .slice pe.da E.plan.drops.length pe.dc, .int .i64 E.clock, .slice ae1 E.socks.length ce1, .slice ae2 E.dials.length ce2, .slice ae3 E.looks.length ce3, .int .i64 E.dropped, .slice ae4 E.marks.length ce4] 33) (.cells #[.int .i8 M.kind, .int .i64 M.fr, .int .i64 M.num, .int .i64 M.sock, .string M.text, .int .i64 M.e] 52)
                    have hb2 := below2 wJ (.cells #[.slice pe.za E.plan.zones.length pe.zc, .slice pe.fa E.plan.fates.length pe.fc, .int .i64 E.plan.ticks, .slice pe.da E.plan.drops.length pe.dc, .int .i64 E.clock, .slice ae1 E.socks.length ce1, .slice ae2 E.dials.length ce2, .slice ae3 E.looks.length ce3, .int .i64 E.dropped, .slice ae4 E.marks.length ce4] 33) (.cells #[.int .i8 M.kind, .int .i64 M.fr, .int .i64 M.num, .int .i64 M.sock, .string M.text, .int .i64 M.e] 52)
                    obtain ⟨W4, hW4⟩ : ∃ X, X = (wJ.alloc (.cells #[.slice pe.za E.plan.zones.length pe.zc, .slice pe.fa E.plan.fates.length pe.fc, .int .i64 E.plan.ticks, .slice pe.da E.plan.drops.length pe.dc, .int .i64 E.clock, .slice ae1 E.socks.length ce1, .slice ae2 E.dials.length ce2, .slice ae3 E.looks.length ce3, .int .i64 E.dropped, .slice ae4 E.marks.length ce4] 33)).alloc (.cells #[.int .i8 M.kind, .int .i64 M.fr, .int .i64 M.num, .int .i64 M.sock, .string M.text, .int .i64 M.e] 52) := ⟨_, rfl⟩
                    rw [← hW4] at hl2 hb2 ⊢
                    clear hW4
                    rw [← hdx14] at hl2 ⊢
                    obtain ⟨bx15, hdx15⟩ : ∃ b, b = bx14 + 1 := ⟨_, rfl⟩
                    rw [← hdx15] at hl2 ⊢
                    have hgex15 : w.heap.size ≤ bx15 := by omega
                    have hltx14x15 : bx14 < bx15 := by omega
                    have hltx3x14 : bx3 < bx14 := by have := lt_of_block Hx3.out; omega
                    have hltx3x15 : bx3 < bx15 := by have := lt_of_block Hx3.out; omega
                    have hltx4x14 : bx4 < bx14 := by have := lt_of_block Hx4.out; omega
                    have hltx4x15 : bx4 < bx15 := by have := lt_of_block Hx4.out; omega
                    have hltx7x14 : bx7 < bx14 := by have := lt_of_block Hx7.out; omega
                    have hltx7x15 : bx7 < bx15 := by have := lt_of_block Hx7.out; omega
                    have hltx12x14 : bx12 < bx14 := by have := lt_of_block Hx12.out; omega
                    have hltx12x15 : bx12 < bx15 := by have := lt_of_block Hx12.out; omega
                    replace Hf7 := Lib.hid (Hf7.out.more (M := (fun b => b ∈ ([bx7, bx12, bx14, bx15] : List Nat))) (by intro b hb; simp only [List.mem_cons, List.not_mem_nil, or_false] at hb ⊢ <;> (first | omega | (right; omega))))
                    replace Hf12 := Lib.hid (Hf12.out.more (M := (fun b => b ∈ ([bx7, bx12, bx14, bx15] : List Nat))) (by intro b hb; simp only [List.mem_cons, List.not_mem_nil, or_false] at hb ⊢ <;> (first | omega | (right; omega))))
                    replace Hf14 := Lib.hid (Hf14.out.more (M := (fun b => b ∈ ([bx7, bx12, bx14, bx15] : List Nat))) (by intro b hb; simp only [List.mem_cons, List.not_mem_nil, or_false] at hb ⊢ <;> (first | omega | (right; omega))))
                    replace Hx3 := Lib.hid ((hb2.block _ (lt_of_block Hx3.out)).trans Hx3.out)
                    replace Hx4 := Lib.hid ((hb2.block _ (lt_of_block Hx4.out)).trans Hx4.out)
                    replace Hx7 := Lib.hid ((hb2.block _ (lt_of_block Hx7.out)).trans Hx7.out)
                    replace Hx12 := Lib.hid ((hb2.block _ (lt_of_block Hx12.out)).trans Hx12.out)
                    replace Hf7 := Lib.hid (Hf7.out.below hb2)
                    replace Hf12 := Lib.hid (Hf12.out.below hb2)
                    replace Hf14 := Lib.hid (Hf14.out.below hb2)
                    replace HB := Lib.hid (HB.out.trans (hb2.mono HB.out.size))
                    replace Hx14 := Lib.hid hl2.1
                    replace Hx15 := Lib.hid hl2.2
                    clear hl2 hb2 hdx14 hdx15
                    have hg : gd = false := by
                      cases gd with
                      | false => rfl
                      | true => have := fate_good (HGo.out rfl) i; rw [← HFv.out] at this; omega
                    subst hg
                    cases nn with
                    | false =>
                      have hMe := HMe.out
                      obtain ⟨⟨x15_c0, x15_c1, x15_c2, x15_c3, x15_c4, x15_c5⟩, x15_f0, x15_f1, x15_f2, x15_f3, x15_f4, x15_f5⟩ := boxes6 Hx15.out
                      go_wp2_with fail
                      go_quiet (fail)
                      clear hMe
                      clear x15_c0 x15_c1 x15_c2 x15_c3 x15_c4 x15_c5 x15_f0 x15_f1 x15_f2 x15_f3 x15_f4 x15_f5
                      first | (obtain ⟨W5, hW5⟩ : ∃ X, X = W4.drewN nq := ⟨_, rfl⟩) | (obtain ⟨W5, hW5⟩ : ∃ X, X = W4 := ⟨_, rfl⟩)
                      have hb : Below W4.heap.size W4 W5 := by rw [hW5]; first | exact below_drewN (Below.refl _ _) _ | exact Below.refl _ _
                      rw [← hW5]
                      clear hW5
                      replace Hx3 := Lib.hid ((hb.block _ (lt_of_block Hx3.out)).trans Hx3.out)
                      replace Hx4 := Lib.hid ((hb.block _ (lt_of_block Hx4.out)).trans Hx4.out)
                      replace Hx7 := Lib.hid ((hb.block _ (lt_of_block Hx7.out)).trans Hx7.out)
                      replace Hx12 := Lib.hid ((hb.block _ (lt_of_block Hx12.out)).trans Hx12.out)
                      replace Hx14 := Lib.hid ((hb.block _ (lt_of_block Hx14.out)).trans Hx14.out)
                      replace Hx15 := Lib.hid ((hb.block _ (lt_of_block Hx15.out)).trans Hx15.out)
                      replace Hf7 := Lib.hid (Hf7.out.below hb)
                      replace Hf12 := Lib.hid (Hf12.out.below hb)
                      replace Hf14 := Lib.hid (Hf14.out.below hb)
                      replace HB := Lib.hid (HB.out.trans (hb.mono HB.out.size))
                      clear hb
                      obtain ⟨⟨x7_c0, x7_c1, x7_c2, x7_c3, x7_c4, x7_c5, x7_c6, x7_c7, x7_c8, x7_c9⟩, x7_f0, x7_f1, x7_f2, x7_f3, x7_f4, x7_f5, x7_f6, x7_f7, x7_f8, x7_f9⟩ := boxes10 Hx7.out
                      obtain ⟨⟨x14_c0, x14_c1, x14_c2, x14_c3, x14_c4, x14_c5, x14_c6, x14_c7, x14_c8, x14_c9⟩, x14_f0, x14_f1, x14_f2, x14_f3, x14_f4, x14_f5, x14_f6, x14_f7, x14_f8, x14_f9⟩ := boxes10 Hx14.out
                      go_upto_region 8 with fail
                      clear x7_c0 x7_c1 x7_c2 x7_c3 x7_c4 x7_c5 x7_c6 x7_c7 x7_c8 x7_c9 x7_f0 x7_f1 x7_f2 x7_f3 x7_f4 x7_f5 x7_f6 x7_f7 x7_f8 x7_f9 x14_c0 x14_c1 x14_c2 x14_c3 x14_c4 x14_c5 x14_c6 x14_c7 x14_c8 x14_c9 x14_f0 x14_f1 x14_f2 x14_f3 x14_f4 x14_f5 x14_f6 x14_f7 x14_f8 x14_f9
                      obtain ⟨W6, hW6⟩ : ∃ X, X = set10 W5 bx7 (.slice pe.za E.plan.zones.length pe.zc) (.slice pe.fa E.plan.fates.length pe.fc) (.int .i64 E.plan.ticks) (.slice pe.da E.plan.drops.length pe.dc) (.int .i64 E.clock) (.slice ae1 E.socks.length ce1) (.slice ae2 E.dials.length ce2) (.slice ae3 E.looks.length ce3) (.int .i64 E.dropped) (.slice ae4 E.marks.length ce4) := ⟨_, rfl⟩
                      have hqx7 := set10_at Hx7.out (.slice pe.za E.plan.zones.length pe.zc) (.slice pe.fa E.plan.fates.length pe.fc) (.int .i64 E.plan.ticks) (.slice pe.da E.plan.drops.length pe.dc) (.int .i64 E.clock) (.slice ae1 E.socks.length ce1) (.slice ae2 E.dials.length ce2) (.slice ae3 E.looks.length ce3) (.int .i64 E.dropped) (.slice ae4 E.marks.length ce4)
                      have hb := set10_below HB.out hgex7 (.slice pe.za E.plan.zones.length pe.zc) (.slice pe.fa E.plan.fates.length pe.fc) (.int .i64 E.plan.ticks) (.slice pe.da E.plan.drops.length pe.dc) (.int .i64 E.clock) (.slice ae1 E.socks.length ce1) (.slice ae2 E.dials.length ce2) (.slice ae3 E.looks.length ce3) (.int .i64 E.dropped) (.slice ae4 E.marks.length ce4)
                      have hqx3 := (set10_other W5 bx7 bx3 (.slice pe.za E.plan.zones.length pe.zc) (.slice pe.fa E.plan.fates.length pe.fc) (.int .i64 E.plan.ticks) (.slice pe.da E.plan.drops.length pe.dc) (.int .i64 E.clock) (.slice ae1 E.socks.length ce1) (.slice ae2 E.dials.length ce2) (.slice ae3 E.looks.length ce3) (.int .i64 E.dropped) (.slice ae4 E.marks.length ce4) (by omega)).trans Hx3.out
                      have hqx4 := (set10_other W5 bx7 bx4 (.slice pe.za E.plan.zones.length pe.zc) (.slice pe.fa E.plan.fates.length pe.fc) (.int .i64 E.plan.ticks) (.slice pe.da E.plan.drops.length pe.dc) (.int .i64 E.clock) (.slice ae1 E.socks.length ce1) (.slice ae2 E.dials.length ce2) (.slice ae3 E.looks.length ce3) (.int .i64 E.dropped) (.slice ae4 E.marks.length ce4) (by omega)).trans Hx4.out
                      have hqx12 := (set10_other W5 bx7 bx12 (.slice pe.za E.plan.zones.length pe.zc) (.slice pe.fa E.plan.fates.length pe.fc) (.int .i64 E.plan.ticks) (.slice pe.da E.plan.drops.length pe.dc) (.int .i64 E.clock) (.slice ae1 E.socks.length ce1) (.slice ae2 E.dials.length ce2) (.slice ae3 E.looks.length ce3) (.int .i64 E.dropped) (.slice ae4 E.marks.length ce4) (by omega)).trans Hx12.out
                      have hqx14 := (set10_other W5 bx7 bx14 (.slice pe.za E.plan.zones.length pe.zc) (.slice pe.fa E.plan.fates.length pe.fc) (.int .i64 E.plan.ticks) (.slice pe.da E.plan.drops.length pe.dc) (.int .i64 E.clock) (.slice ae1 E.socks.length ce1) (.slice ae2 E.dials.length ce2) (.slice ae3 E.looks.length ce3) (.int .i64 E.dropped) (.slice ae4 E.marks.length ce4) (by omega)).trans Hx14.out
                      have hqx15 := (set10_other W5 bx7 bx15 (.slice pe.za E.plan.zones.length pe.zc) (.slice pe.fa E.plan.fates.length pe.fc) (.int .i64 E.plan.ticks) (.slice pe.da E.plan.drops.length pe.dc) (.int .i64 E.clock) (.slice ae1 E.socks.length ce1) (.slice ae2 E.dials.length ce2) (.slice ae3 E.looks.length ce3) (.int .i64 E.dropped) (.slice ae4 E.marks.length ce4) (by omega)).trans Hx15.out
                      have hqf7 := set10_flat (b := bx7) Hf7.out (by simp) (.slice pe.za E.plan.zones.length pe.zc) (.slice pe.fa E.plan.fates.length pe.fc) (.int .i64 E.plan.ticks) (.slice pe.da E.plan.drops.length pe.dc) (.int .i64 E.clock) (.slice ae1 E.socks.length ce1) (.slice ae2 E.dials.length ce2) (.slice ae3 E.looks.length ce3) (.int .i64 E.dropped) (.slice ae4 E.marks.length ce4)
                      have hqf12 := set10_flat (b := bx7) Hf12.out (by simp) (.slice pe.za E.plan.zones.length pe.zc) (.slice pe.fa E.plan.fates.length pe.fc) (.int .i64 E.plan.ticks) (.slice pe.da E.plan.drops.length pe.dc) (.int .i64 E.clock) (.slice ae1 E.socks.length ce1) (.slice ae2 E.dials.length ce2) (.slice ae3 E.looks.length ce3) (.int .i64 E.dropped) (.slice ae4 E.marks.length ce4)
                      have hqf14 := set10_flat (b := bx7) Hf14.out (by simp) (.slice pe.za E.plan.zones.length pe.zc) (.slice pe.fa E.plan.fates.length pe.fc) (.int .i64 E.plan.ticks) (.slice pe.da E.plan.drops.length pe.dc) (.int .i64 E.clock) (.slice ae1 E.socks.length ce1) (.slice ae2 E.dials.length ce2) (.slice ae3 E.looks.length ce3) (.int .i64 E.dropped) (.slice ae4 E.marks.length ce4)
                      rw [← hW6] at hqx7 hb hqx3 hqx4 hqx12 hqx14 hqx15 hqf7 hqf12 hqf14
                      unfold set10 at hW6
                      rw [← hW6]
                      clear hW6
                      replace HB := Lib.hid hb
                      replace Hx3 := Lib.hid hqx3
                      replace Hx4 := Lib.hid hqx4
                      replace Hx7 := Lib.hid hqx7
                      replace Hx12 := Lib.hid hqx12
                      replace Hx14 := Lib.hid hqx14
                      replace Hx15 := Lib.hid hqx15
                      replace Hf7 := Lib.hid hqf7
                      replace Hf12 := Lib.hid hqf12
                      replace Hf14 := Lib.hid hqf14
                      clear hqx7 hb hqx3 hqx4 hqx12 hqx14 hqx15 hqf7 hqf12 hqf14
                      have Hrow := Lib.hid (Hf14.out.more (M := (fun b => b ∈ ([bx7] : List Nat))) (by intro b hb; simp only [List.mem_cons, List.not_mem_nil, or_false] at hb ⊢ <;> (first | omega | (right; omega))))
                      have HB := Lib.hid HB.out
                      go_wp2_with fail
                      go_roundw
                      case rel => exact ⟨i + 1, E, pe, ae1, ce1, ae2, ce2, ae3, ce3, ae4, ce4, by go_num, by omega, HI2, Hrow, Hx7, Hx3, Hx4, HB⟩
                      case measure => simp [intOf]; omega
                    | true =>
                      have hMe := HMe.out
                      obtain ⟨⟨x15_c0, x15_c1, x15_c2, x15_c3, x15_c4, x15_c5⟩, x15_f0, x15_f1, x15_f2, x15_f3, x15_f4, x15_f5⟩ := boxes6 Hx15.out
                      go_wp2_with fail
                      go_quiet (fail)
                      clear hMe
                      clear x15_c0 x15_c1 x15_c2 x15_c3 x15_c4 x15_c5 x15_f0 x15_f1 x15_f2 x15_f3 x15_f4 x15_f5
                      first | (obtain ⟨W5, hW5⟩ : ∃ X, X = W4.drewN nq := ⟨_, rfl⟩) | (obtain ⟨W5, hW5⟩ : ∃ X, X = W4 := ⟨_, rfl⟩)
                      have hb : Below W4.heap.size W4 W5 := by rw [hW5]; first | exact below_drewN (Below.refl _ _) _ | exact Below.refl _ _
                      rw [← hW5]
                      clear hW5
                      replace Hx3 := Lib.hid ((hb.block _ (lt_of_block Hx3.out)).trans Hx3.out)
                      replace Hx4 := Lib.hid ((hb.block _ (lt_of_block Hx4.out)).trans Hx4.out)
                      replace Hx7 := Lib.hid ((hb.block _ (lt_of_block Hx7.out)).trans Hx7.out)
                      replace Hx12 := Lib.hid ((hb.block _ (lt_of_block Hx12.out)).trans Hx12.out)
                      replace Hx14 := Lib.hid ((hb.block _ (lt_of_block Hx14.out)).trans Hx14.out)
                      replace Hx15 := Lib.hid ((hb.block _ (lt_of_block Hx15.out)).trans Hx15.out)
                      replace Hf7 := Lib.hid (Hf7.out.below hb)
                      replace Hf12 := Lib.hid (Hf12.out.below hb)
                      replace Hf14 := Lib.hid (Hf14.out.below hb)
                      replace HB := Lib.hid (HB.out.trans (hb.mono HB.out.size))
                      clear hb
                      obtain ⟨⟨x7_c0, x7_c1, x7_c2, x7_c3, x7_c4, x7_c5, x7_c6, x7_c7, x7_c8, x7_c9⟩, x7_f0, x7_f1, x7_f2, x7_f3, x7_f4, x7_f5, x7_f6, x7_f7, x7_f8, x7_f9⟩ := boxes10 Hx7.out
                      obtain ⟨⟨x14_c0, x14_c1, x14_c2, x14_c3, x14_c4, x14_c5, x14_c6, x14_c7, x14_c8, x14_c9⟩, x14_f0, x14_f1, x14_f2, x14_f3, x14_f4, x14_f5, x14_f6, x14_f7, x14_f8, x14_f9⟩ := boxes10 Hx14.out
                      go_upto_region 8 with fail
                      clear x7_c0 x7_c1 x7_c2 x7_c3 x7_c4 x7_c5 x7_c6 x7_c7 x7_c8 x7_c9 x7_f0 x7_f1 x7_f2 x7_f3 x7_f4 x7_f5 x7_f6 x7_f7 x7_f8 x7_f9 x14_c0 x14_c1 x14_c2 x14_c3 x14_c4 x14_c5 x14_c6 x14_c7 x14_c8 x14_c9 x14_f0 x14_f1 x14_f2 x14_f3 x14_f4 x14_f5 x14_f6 x14_f7 x14_f8 x14_f9
                      obtain ⟨W6, hW6⟩ : ∃ X, X = set10 W5 bx7 (.slice pe.za E.plan.zones.length pe.zc) (.slice pe.fa E.plan.fates.length pe.fc) (.int .i64 E.plan.ticks) (.slice pe.da E.plan.drops.length pe.dc) (.int .i64 E.clock) (.slice ae1 E.socks.length ce1) (.slice ae2 E.dials.length ce2) (.slice ae3 E.looks.length ce3) (.int .i64 E.dropped) (.slice ae4 E.marks.length ce4) := ⟨_, rfl⟩
                      have hqx7 := set10_at Hx7.out (.slice pe.za E.plan.zones.length pe.zc) (.slice pe.fa E.plan.fates.length pe.fc) (.int .i64 E.plan.ticks) (.slice pe.da E.plan.drops.length pe.dc) (.int .i64 E.clock) (.slice ae1 E.socks.length ce1) (.slice ae2 E.dials.length ce2) (.slice ae3 E.looks.length ce3) (.int .i64 E.dropped) (.slice ae4 E.marks.length ce4)
                      have hb := set10_below HB.out hgex7 (.slice pe.za E.plan.zones.length pe.zc) (.slice pe.fa E.plan.fates.length pe.fc) (.int .i64 E.plan.ticks) (.slice pe.da E.plan.drops.length pe.dc) (.int .i64 E.clock) (.slice ae1 E.socks.length ce1) (.slice ae2 E.dials.length ce2) (.slice ae3 E.looks.length ce3) (.int .i64 E.dropped) (.slice ae4 E.marks.length ce4)
                      have hqx3 := (set10_other W5 bx7 bx3 (.slice pe.za E.plan.zones.length pe.zc) (.slice pe.fa E.plan.fates.length pe.fc) (.int .i64 E.plan.ticks) (.slice pe.da E.plan.drops.length pe.dc) (.int .i64 E.clock) (.slice ae1 E.socks.length ce1) (.slice ae2 E.dials.length ce2) (.slice ae3 E.looks.length ce3) (.int .i64 E.dropped) (.slice ae4 E.marks.length ce4) (by omega)).trans Hx3.out
                      have hqx4 := (set10_other W5 bx7 bx4 (.slice pe.za E.plan.zones.length pe.zc) (.slice pe.fa E.plan.fates.length pe.fc) (.int .i64 E.plan.ticks) (.slice pe.da E.plan.drops.length pe.dc) (.int .i64 E.clock) (.slice ae1 E.socks.length ce1) (.slice ae2 E.dials.length ce2) (.slice ae3 E.looks.length ce3) (.int .i64 E.dropped) (.slice ae4 E.marks.length ce4) (by omega)).trans Hx4.out
                      have hqx12 := (set10_other W5 bx7 bx12 (.slice pe.za E.plan.zones.length pe.zc) (.slice pe.fa E.plan.fates.length pe.fc) (.int .i64 E.plan.ticks) (.slice pe.da E.plan.drops.length pe.dc) (.int .i64 E.clock) (.slice ae1 E.socks.length ce1) (.slice ae2 E.dials.length ce2) (.slice ae3 E.looks.length ce3) (.int .i64 E.dropped) (.slice ae4 E.marks.length ce4) (by omega)).trans Hx12.out
                      have hqx14 := (set10_other W5 bx7 bx14 (.slice pe.za E.plan.zones.length pe.zc) (.slice pe.fa E.plan.fates.length pe.fc) (.int .i64 E.plan.ticks) (.slice pe.da E.plan.drops.length pe.dc) (.int .i64 E.clock) (.slice ae1 E.socks.length ce1) (.slice ae2 E.dials.length ce2) (.slice ae3 E.looks.length ce3) (.int .i64 E.dropped) (.slice ae4 E.marks.length ce4) (by omega)).trans Hx14.out
                      have hqx15 := (set10_other W5 bx7 bx15 (.slice pe.za E.plan.zones.length pe.zc) (.slice pe.fa E.plan.fates.length pe.fc) (.int .i64 E.plan.ticks) (.slice pe.da E.plan.drops.length pe.dc) (.int .i64 E.clock) (.slice ae1 E.socks.length ce1) (.slice ae2 E.dials.length ce2) (.slice ae3 E.looks.length ce3) (.int .i64 E.dropped) (.slice ae4 E.marks.length ce4) (by omega)).trans Hx15.out
                      have hqf7 := set10_flat (b := bx7) Hf7.out (by simp) (.slice pe.za E.plan.zones.length pe.zc) (.slice pe.fa E.plan.fates.length pe.fc) (.int .i64 E.plan.ticks) (.slice pe.da E.plan.drops.length pe.dc) (.int .i64 E.clock) (.slice ae1 E.socks.length ce1) (.slice ae2 E.dials.length ce2) (.slice ae3 E.looks.length ce3) (.int .i64 E.dropped) (.slice ae4 E.marks.length ce4)
                      have hqf12 := set10_flat (b := bx7) Hf12.out (by simp) (.slice pe.za E.plan.zones.length pe.zc) (.slice pe.fa E.plan.fates.length pe.fc) (.int .i64 E.plan.ticks) (.slice pe.da E.plan.drops.length pe.dc) (.int .i64 E.clock) (.slice ae1 E.socks.length ce1) (.slice ae2 E.dials.length ce2) (.slice ae3 E.looks.length ce3) (.int .i64 E.dropped) (.slice ae4 E.marks.length ce4)
                      have hqf14 := set10_flat (b := bx7) Hf14.out (by simp) (.slice pe.za E.plan.zones.length pe.zc) (.slice pe.fa E.plan.fates.length pe.fc) (.int .i64 E.plan.ticks) (.slice pe.da E.plan.drops.length pe.dc) (.int .i64 E.clock) (.slice ae1 E.socks.length ce1) (.slice ae2 E.dials.length ce2) (.slice ae3 E.looks.length ce3) (.int .i64 E.dropped) (.slice ae4 E.marks.length ce4)
                      rw [← hW6] at hqx7 hb hqx3 hqx4 hqx12 hqx14 hqx15 hqf7 hqf12 hqf14
                      unfold set10 at hW6
                      rw [← hW6]
                      clear hW6
                      replace HB := Lib.hid hb
                      replace Hx3 := Lib.hid hqx3
                      replace Hx4 := Lib.hid hqx4
                      replace Hx7 := Lib.hid hqx7
                      replace Hx12 := Lib.hid hqx12
                      replace Hx14 := Lib.hid hqx14
                      replace Hx15 := Lib.hid hqx15
                      replace Hf7 := Lib.hid hqf7
                      replace Hf12 := Lib.hid hqf12
                      replace Hf14 := Lib.hid hqf14
                      clear hqx7 hb hqx3 hqx4 hqx12 hqx14 hqx15 hqf7 hqf12 hqf14
                      have Hrow := Lib.hid (Hf14.out.more (M := (fun b => b ∈ ([bx7] : List Nat))) (by intro b hb; simp only [List.mem_cons, List.not_mem_nil, or_false] at hb ⊢ <;> (first | omega | (right; omega))))
                      have HB := Lib.hid HB.out
                      go_wp2_with fail
                      go_roundw
                      case rel => exact ⟨i + 1, E, pe, ae1, ce1, ae2, ce2, ae3, ce3, ae4, ce4, by go_num, by omega, HI2, Hrow, Hx7, Hx3, Hx4, HB⟩
                      case measure => simp [intOf]; omega
                  · have HRY := Lib.hid (show false = readyP A1 i from by rw [HA1.out, HI.out.readyP, ← HFv.out]; rfl)
                    obtain ⟨⟨x12_c0, x12_c1, x12_c2, x12_c3, x12_c4, x12_c5, x12_c6, x12_c7, x12_c8, x12_c9⟩, x12_f0, x12_f1, x12_f2, x12_f3, x12_f4, x12_f5, x12_f6, x12_f7, x12_f8, x12_f9⟩ := boxes10 Hx12.out
                    obtain ⟨⟨x7_c0, x7_c1, x7_c2, x7_c3, x7_c4, x7_c5, x7_c6, x7_c7, x7_c8, x7_c9⟩, x7_f0, x7_f1, x7_f2, x7_f3, x7_f4, x7_f5, x7_f6, x7_f7, x7_f8, x7_f9⟩ := boxes10 Hx7.out
                    have HX := Lib.hid (HRd.out A1 ⟨pd, ad1, cd1, ad2, cd2, ad3, cd3, ad4, cd4⟩ i W3 false HRm1.out Hf12.out.world HRY.out)
                    try simp only [Wv.val, Wv.cells] at HX
                    go_wp2_with fail
                    with_reducible refine HX.out.mono ?_
                    rintro e wH ⟨rfl, hb⟩
                    clear x12_c0 x12_c1 x12_c2 x12_c3 x12_c4 x12_c5 x12_c6 x12_c7 x12_c8 x12_c9 x12_f0 x12_f1 x12_f2 x12_f3 x12_f4 x12_f5 x12_f6 x12_f7 x12_f8 x12_f9 x7_c0 x7_c1 x7_c2 x7_c3 x7_c4 x7_c5 x7_c6 x7_c7 x7_c8 x7_c9 x7_f0 x7_f1 x7_f2 x7_f3 x7_f4 x7_f5 x7_f6 x7_f7 x7_f8 x7_f9
                    replace Hx3 := Lib.hid ((hb.block _ (lt_of_block Hx3.out)).trans Hx3.out)
                    replace Hx4 := Lib.hid ((hb.block _ (lt_of_block Hx4.out)).trans Hx4.out)
                    replace Hx7 := Lib.hid ((hb.block _ (lt_of_block Hx7.out)).trans Hx7.out)
                    replace Hx12 := Lib.hid ((hb.block _ (lt_of_block Hx12.out)).trans Hx12.out)
                    replace Hf7 := Lib.hid (Hf7.out.below hb)
                    replace Hf12 := Lib.hid (Hf12.out.below hb)
                    replace HB := Lib.hid (HB.out.trans (hb.mono HB.out.size))
                    clear hb HX
                    have hg : gd = false := by
                      cases gd with
                      | false => rfl
                      | true => have := fate_good (HGo.out rfl) i; rw [← HFv.out] at this; omega
                    have hn : nn = false := by
                      cases nn with
                      | false => rfl
                      | true => have := fate_none (HNn.out rfl) a i; rw [← HFv.out] at this; omega
                    subst hg hn
                    have HI2 := Lib.hid (show FatesInv P a A1 (i + 1) from by rw [HA1.out]; exact HI.out.more false false)
                    obtain ⟨⟨x7_c0, x7_c1, x7_c2, x7_c3, x7_c4, x7_c5, x7_c6, x7_c7, x7_c8, x7_c9⟩, x7_f0, x7_f1, x7_f2, x7_f3, x7_f4, x7_f5, x7_f6, x7_f7, x7_f8, x7_f9⟩ := boxes10 Hx7.out
                    obtain ⟨⟨x12_c0, x12_c1, x12_c2, x12_c3, x12_c4, x12_c5, x12_c6, x12_c7, x12_c8, x12_c9⟩, x12_f0, x12_f1, x12_f2, x12_f3, x12_f4, x12_f5, x12_f6, x12_f7, x12_f8, x12_f9⟩ := boxes10 Hx12.out
                    go_upto_region 8 with fail
                    clear x7_c0 x7_c1 x7_c2 x7_c3 x7_c4 x7_c5 x7_c6 x7_c7 x7_c8 x7_c9 x7_f0 x7_f1 x7_f2 x7_f3 x7_f4 x7_f5 x7_f6 x7_f7 x7_f8 x7_f9 x12_c0 x12_c1 x12_c2 x12_c3 x12_c4 x12_c5 x12_c6 x12_c7 x12_c8 x12_c9 x12_f0 x12_f1 x12_f2 x12_f3 x12_f4 x12_f5 x12_f6 x12_f7 x12_f8 x12_f9
                    obtain ⟨W4, hW4⟩ : ∃ X, X = set10 wH bx7 (.slice pd.za A1.plan.zones.length pd.zc) (.slice pd.fa A1.plan.fates.length pd.fc) (.int .i64 A1.plan.ticks) (.slice pd.da A1.plan.drops.length pd.dc) (.int .i64 A1.clock) (.slice ad1 A1.socks.length cd1) (.slice ad2 A1.dials.length cd2) (.slice ad3 A1.looks.length cd3) (.int .i64 A1.dropped) (.slice ad4 A1.marks.length cd4) := ⟨_, rfl⟩
                    have hqx7 := set10_at Hx7.out (.slice pd.za A1.plan.zones.length pd.zc) (.slice pd.fa A1.plan.fates.length pd.fc) (.int .i64 A1.plan.ticks) (.slice pd.da A1.plan.drops.length pd.dc) (.int .i64 A1.clock) (.slice ad1 A1.socks.length cd1) (.slice ad2 A1.dials.length cd2) (.slice ad3 A1.looks.length cd3) (.int .i64 A1.dropped) (.slice ad4 A1.marks.length cd4)
                    have hb := set10_below HB.out hgex7 (.slice pd.za A1.plan.zones.length pd.zc) (.slice pd.fa A1.plan.fates.length pd.fc) (.int .i64 A1.plan.ticks) (.slice pd.da A1.plan.drops.length pd.dc) (.int .i64 A1.clock) (.slice ad1 A1.socks.length cd1) (.slice ad2 A1.dials.length cd2) (.slice ad3 A1.looks.length cd3) (.int .i64 A1.dropped) (.slice ad4 A1.marks.length cd4)
                    have hqx3 := (set10_other wH bx7 bx3 (.slice pd.za A1.plan.zones.length pd.zc) (.slice pd.fa A1.plan.fates.length pd.fc) (.int .i64 A1.plan.ticks) (.slice pd.da A1.plan.drops.length pd.dc) (.int .i64 A1.clock) (.slice ad1 A1.socks.length cd1) (.slice ad2 A1.dials.length cd2) (.slice ad3 A1.looks.length cd3) (.int .i64 A1.dropped) (.slice ad4 A1.marks.length cd4) (by omega)).trans Hx3.out
                    have hqx4 := (set10_other wH bx7 bx4 (.slice pd.za A1.plan.zones.length pd.zc) (.slice pd.fa A1.plan.fates.length pd.fc) (.int .i64 A1.plan.ticks) (.slice pd.da A1.plan.drops.length pd.dc) (.int .i64 A1.clock) (.slice ad1 A1.socks.length cd1) (.slice ad2 A1.dials.length cd2) (.slice ad3 A1.looks.length cd3) (.int .i64 A1.dropped) (.slice ad4 A1.marks.length cd4) (by omega)).trans Hx4.out
                    have hqx12 := (set10_other wH bx7 bx12 (.slice pd.za A1.plan.zones.length pd.zc) (.slice pd.fa A1.plan.fates.length pd.fc) (.int .i64 A1.plan.ticks) (.slice pd.da A1.plan.drops.length pd.dc) (.int .i64 A1.clock) (.slice ad1 A1.socks.length cd1) (.slice ad2 A1.dials.length cd2) (.slice ad3 A1.looks.length cd3) (.int .i64 A1.dropped) (.slice ad4 A1.marks.length cd4) (by omega)).trans Hx12.out
                    have hqf7 := set10_flat (b := bx7) Hf7.out (by simp) (.slice pd.za A1.plan.zones.length pd.zc) (.slice pd.fa A1.plan.fates.length pd.fc) (.int .i64 A1.plan.ticks) (.slice pd.da A1.plan.drops.length pd.dc) (.int .i64 A1.clock) (.slice ad1 A1.socks.length cd1) (.slice ad2 A1.dials.length cd2) (.slice ad3 A1.looks.length cd3) (.int .i64 A1.dropped) (.slice ad4 A1.marks.length cd4)
                    have hqf12 := set10_flat (b := bx7) Hf12.out (by simp) (.slice pd.za A1.plan.zones.length pd.zc) (.slice pd.fa A1.plan.fates.length pd.fc) (.int .i64 A1.plan.ticks) (.slice pd.da A1.plan.drops.length pd.dc) (.int .i64 A1.clock) (.slice ad1 A1.socks.length cd1) (.slice ad2 A1.dials.length cd2) (.slice ad3 A1.looks.length cd3) (.int .i64 A1.dropped) (.slice ad4 A1.marks.length cd4)
                    rw [← hW4] at hqx7 hb hqx3 hqx4 hqx12 hqf7 hqf12
                    unfold set10 at hW4
                    rw [← hW4]
                    clear hW4
                    replace HB := Lib.hid hb
                    replace Hx3 := Lib.hid hqx3
                    replace Hx4 := Lib.hid hqx4
                    replace Hx7 := Lib.hid hqx7
                    replace Hx12 := Lib.hid hqx12
                    replace Hf7 := Lib.hid hqf7
                    replace Hf12 := Lib.hid hqf12
                    clear hqx7 hb hqx3 hqx4 hqx12 hqf7 hqf12
                    have Hrow := Lib.hid (Hf12.out.more (M := (fun b => b ∈ ([bx7] : List Nat))) (by intro b hb; simp only [List.mem_cons, List.not_mem_nil, or_false] at hb ⊢ <;> (first | omega | (right; omega))))
                    have HB := Lib.hid HB.out
                    go_wp2_with fail
                    go_roundw
                    case rel => exact ⟨i + 1, A1, pd, ad1, cd1, ad2, cd2, ad3, cd3, ad4, cd4, by go_num, by omega, HI2, Hrow, Hx7, Hx3, Hx4, HB⟩
                    case measure => simp [intOf]; omega
                | true =>
                  obtain ⟨A2, hA2⟩ : ∃ X, X = oneMore P A a i true false := ⟨_, rfl⟩
                  have hC := HI.out.cutP.symm
                  rw [← hA2, ← HA1.out] at hC
                  obtain ⟨⟨x12_c0, x12_c1, x12_c2, x12_c3, x12_c4, x12_c5, x12_c6, x12_c7, x12_c8, x12_c9⟩, x12_f0, x12_f1, x12_f2, x12_f3, x12_f4, x12_f5, x12_f6, x12_f7, x12_f8, x12_f9⟩ := boxes10 Hx12.out
                  obtain ⟨⟨x7_c0, x7_c1, x7_c2, x7_c3, x7_c4, x7_c5, x7_c6, x7_c7, x7_c8, x7_c9⟩, x7_f0, x7_f1, x7_f2, x7_f3, x7_f4, x7_f5, x7_f6, x7_f7, x7_f8, x7_f9⟩ := boxes10 Hx7.out
                  have HX := Lib.hid (HCt.out (fun b => b ∈ ([bx7, bx12] : List Nat)) A1 ⟨pd, ad1, cd1, ad2, cd2, ad3, cd3, ad4, cd4⟩ i W3 A2 (by have := lt_of_block Hx7.out; have := lt_of_block Hx12.out; intro b hb; simp only [List.mem_cons, List.not_mem_nil, or_false] at hb <;> omega) HRm1.out Hf12.out hC)
                  try simp only [Wv.val, Wv.cells] at HX
                  clear hC
                  go_wp2_with fail
                  with_reducible refine HX.out.mono ?_
                  rintro e wG ⟨⟨pg, ag1, cg1, ag2, cg2, ag3, cg3, ag4, cg4⟩, rfl, hfl, hb⟩
                  have HA2 := Lib.hid hA2
                  clear hA2
                  clear x12_c0 x12_c1 x12_c2 x12_c3 x12_c4 x12_c5 x12_c6 x12_c7 x12_c8 x12_c9 x12_f0 x12_f1 x12_f2 x12_f3 x12_f4 x12_f5 x12_f6 x12_f7 x12_f8 x12_f9 x7_c0 x7_c1 x7_c2 x7_c3 x7_c4 x7_c5 x7_c6 x7_c7 x7_c8 x7_c9 x7_f0 x7_f1 x7_f2 x7_f3 x7_f4 x7_f5 x7_f6 x7_f7 x7_f8 x7_f9
                  replace Hx3 := Lib.hid ((hb.block _ (lt_of_block Hx3.out)).trans Hx3.out)
                  replace Hx4 := Lib.hid ((hb.block _ (lt_of_block Hx4.out)).trans Hx4.out)
                  replace Hx7 := Lib.hid ((hb.block _ (lt_of_block Hx7.out)).trans Hx7.out)
                  replace Hx12 := Lib.hid ((hb.block _ (lt_of_block Hx12.out)).trans Hx12.out)
                  replace Hf7 := Lib.hid (Hf7.out.below hb)
                  replace HB := Lib.hid (HB.out.trans (hb.mono HB.out.size))
                  have Hf12 := Lib.hid hfl
                  clear hb hfl HX
                  simp only [Wv.val, Wv.cells, Lt.v]
                  obtain ⟨⟨x12_c0, x12_c1, x12_c2, x12_c3, x12_c4, x12_c5, x12_c6, x12_c7, x12_c8, x12_c9⟩, x12_f0, x12_f1, x12_f2, x12_f3, x12_f4, x12_f5, x12_f6, x12_f7, x12_f8, x12_f9⟩ := boxes10 Hx12.out
                  go_upto_region 14 with fail
                  clear x12_c0 x12_c1 x12_c2 x12_c3 x12_c4 x12_c5 x12_c6 x12_c7 x12_c8 x12_c9 x12_f0 x12_f1 x12_f2 x12_f3 x12_f4 x12_f5 x12_f6 x12_f7 x12_f8 x12_f9
                  obtain ⟨W4, hW4⟩ : ∃ X, X = set10 wG bx12 (.slice pg.za A2.plan.zones.length pg.zc) (.slice pg.fa A2.plan.fates.length pg.fc) (.int .i64 A2.plan.ticks) (.slice pg.da A2.plan.drops.length pg.dc) (.int .i64 A2.clock) (.slice ag1 A2.socks.length cg1) (.slice ag2 A2.dials.length cg2) (.slice ag3 A2.looks.length cg3) (.int .i64 A2.dropped) (.slice ag4 A2.marks.length cg4) := ⟨_, rfl⟩
                  have hqx12 := set10_at Hx12.out (.slice pg.za A2.plan.zones.length pg.zc) (.slice pg.fa A2.plan.fates.length pg.fc) (.int .i64 A2.plan.ticks) (.slice pg.da A2.plan.drops.length pg.dc) (.int .i64 A2.clock) (.slice ag1 A2.socks.length cg1) (.slice ag2 A2.dials.length cg2) (.slice ag3 A2.looks.length cg3) (.int .i64 A2.dropped) (.slice ag4 A2.marks.length cg4)
                  have hb := set10_below HB.out hgex12 (.slice pg.za A2.plan.zones.length pg.zc) (.slice pg.fa A2.plan.fates.length pg.fc) (.int .i64 A2.plan.ticks) (.slice pg.da A2.plan.drops.length pg.dc) (.int .i64 A2.clock) (.slice ag1 A2.socks.length cg1) (.slice ag2 A2.dials.length cg2) (.slice ag3 A2.looks.length cg3) (.int .i64 A2.dropped) (.slice ag4 A2.marks.length cg4)
                  have hqx3 := (set10_other wG bx12 bx3 (.slice pg.za A2.plan.zones.length pg.zc) (.slice pg.fa A2.plan.fates.length pg.fc) (.int .i64 A2.plan.ticks) (.slice pg.da A2.plan.drops.length pg.dc) (.int .i64 A2.clock) (.slice ag1 A2.socks.length cg1) (.slice ag2 A2.dials.length cg2) (.slice ag3 A2.looks.length cg3) (.int .i64 A2.dropped) (.slice ag4 A2.marks.length cg4) (by omega)).trans Hx3.out
                  have hqx4 := (set10_other wG bx12 bx4 (.slice pg.za A2.plan.zones.length pg.zc) (.slice pg.fa A2.plan.fates.length pg.fc) (.int .i64 A2.plan.ticks) (.slice pg.da A2.plan.drops.length pg.dc) (.int .i64 A2.clock) (.slice ag1 A2.socks.length cg1) (.slice ag2 A2.dials.length cg2) (.slice ag3 A2.looks.length cg3) (.int .i64 A2.dropped) (.slice ag4 A2.marks.length cg4) (by omega)).trans Hx4.out
                  have hqx7 := (set10_other wG bx12 bx7 (.slice pg.za A2.plan.zones.length pg.zc) (.slice pg.fa A2.plan.fates.length pg.fc) (.int .i64 A2.plan.ticks) (.slice pg.da A2.plan.drops.length pg.dc) (.int .i64 A2.clock) (.slice ag1 A2.socks.length cg1) (.slice ag2 A2.dials.length cg2) (.slice ag3 A2.looks.length cg3) (.int .i64 A2.dropped) (.slice ag4 A2.marks.length cg4) (by omega)).trans Hx7.out
                  have hqf7 := set10_flat (b := bx12) Hf7.out (by simp) (.slice pg.za A2.plan.zones.length pg.zc) (.slice pg.fa A2.plan.fates.length pg.fc) (.int .i64 A2.plan.ticks) (.slice pg.da A2.plan.drops.length pg.dc) (.int .i64 A2.clock) (.slice ag1 A2.socks.length cg1) (.slice ag2 A2.dials.length cg2) (.slice ag3 A2.looks.length cg3) (.int .i64 A2.dropped) (.slice ag4 A2.marks.length cg4)
                  have hqf12 := set10_flat (b := bx12) Hf12.out (by simp) (.slice pg.za A2.plan.zones.length pg.zc) (.slice pg.fa A2.plan.fates.length pg.fc) (.int .i64 A2.plan.ticks) (.slice pg.da A2.plan.drops.length pg.dc) (.int .i64 A2.clock) (.slice ag1 A2.socks.length cg1) (.slice ag2 A2.dials.length cg2) (.slice ag3 A2.looks.length cg3) (.int .i64 A2.dropped) (.slice ag4 A2.marks.length cg4)
                  rw [← hW4] at hqx12 hb hqx3 hqx4 hqx7 hqf7 hqf12
                  unfold set10 at hW4
                  rw [← hW4]
                  clear hW4
                  replace HB := Lib.hid hb
                  replace Hx3 := Lib.hid hqx3
                  replace Hx4 := Lib.hid hqx4
                  replace Hx7 := Lib.hid hqx7
                  replace Hx12 := Lib.hid hqx12
                  replace Hf7 := Lib.hid hqf7
                  replace Hf12 := Lib.hid hqf12
                  clear hqx12 hb hqx3 hqx4 hqx7 hqf7 hqf12
                  have HRm2 := Lib.hid (show Room A2 from by rw [HA2.out]; exact (HI.out.more true false).room (by omega) HFew.out HCk.out.2.2.1.2 HMm.out)
                  have HP2 := Lib.hid (show A2.plan = P from by rw [HA2.out]; exact HI.out.plan)
                  have HRY := Lib.hid (show true = readyP A2 i from by rw [HA2.out, HI.out.readyP, ← HFv.out, ready_cut hf3])
                  obtain ⟨⟨x12_c0, x12_c1, x12_c2, x12_c3, x12_c4, x12_c5, x12_c6, x12_c7, x12_c8, x12_c9⟩, x12_f0, x12_f1, x12_f2, x12_f3, x12_f4, x12_f5, x12_f6, x12_f7, x12_f8, x12_f9⟩ := boxes10 Hx12.out
                  have HX := Lib.hid (HRd.out A2 ⟨pg, ag1, cg1, ag2, cg2, ag3, cg3, ag4, cg4⟩ i W4 true HRm2.out Hf12.out.world HRY.out)
                  try simp only [Wv.val, Wv.cells] at HX
                  go_wp2_with fail
                  with_reducible refine HX.out.mono ?_
                  rintro e wH ⟨rfl, hb⟩
                  clear x12_c0 x12_c1 x12_c2 x12_c3 x12_c4 x12_c5 x12_c6 x12_c7 x12_c8 x12_c9 x12_f0 x12_f1 x12_f2 x12_f3 x12_f4 x12_f5 x12_f6 x12_f7 x12_f8 x12_f9
                  replace Hx3 := Lib.hid ((hb.block _ (lt_of_block Hx3.out)).trans Hx3.out)
                  replace Hx4 := Lib.hid ((hb.block _ (lt_of_block Hx4.out)).trans Hx4.out)
                  replace Hx7 := Lib.hid ((hb.block _ (lt_of_block Hx7.out)).trans Hx7.out)
                  replace Hx12 := Lib.hid ((hb.block _ (lt_of_block Hx12.out)).trans Hx12.out)
                  replace Hf7 := Lib.hid (Hf7.out.below hb)
                  replace Hf12 := Lib.hid (Hf12.out.below hb)
                  replace HB := Lib.hid (HB.out.trans (hb.mono HB.out.size))
                  clear hb HX
                  obtain ⟨⟨x12_c0, x12_c1, x12_c2, x12_c3, x12_c4, x12_c5, x12_c6, x12_c7, x12_c8, x12_c9⟩, x12_f0, x12_f1, x12_f2, x12_f3, x12_f4, x12_f5, x12_f6, x12_f7, x12_f8, x12_f9⟩ := boxes10 Hx12.out
                  have HX := Lib.hid (HRd.out A2 ⟨pg, ag1, cg1, ag2, cg2, ag3, cg3, ag4, cg4⟩ i wH true HRm2.out Hf12.out.world HRY.out)
                  try simp only [Wv.val, Wv.cells] at HX
                  go_wp2_with fail
                  with_reducible refine HX.out.mono ?_
                  rintro e wI ⟨rfl, hb⟩
                  clear x12_c0 x12_c1 x12_c2 x12_c3 x12_c4 x12_c5 x12_c6 x12_c7 x12_c8 x12_c9 x12_f0 x12_f1 x12_f2 x12_f3 x12_f4 x12_f5 x12_f6 x12_f7 x12_f8 x12_f9
                  replace Hx3 := Lib.hid ((hb.block _ (lt_of_block Hx3.out)).trans Hx3.out)
                  replace Hx4 := Lib.hid ((hb.block _ (lt_of_block Hx4.out)).trans Hx4.out)
                  replace Hx7 := Lib.hid ((hb.block _ (lt_of_block Hx7.out)).trans Hx7.out)
                  replace Hx12 := Lib.hid ((hb.block _ (lt_of_block Hx12.out)).trans Hx12.out)
                  replace Hf7 := Lib.hid (Hf7.out.below hb)
                  replace Hf12 := Lib.hid (Hf12.out.below hb)
                  replace HB := Lib.hid (HB.out.trans (hb.mono HB.out.size))
                  clear hb HX
                  rcases hf3 with rfl | rfl | rfl
                  · obtain ⟨E, hE⟩ : ∃ X, X = endOf P A a i true := ⟨_, rfl⟩
                    obtain ⟨M, hM⟩ : ∃ X : Lt, X = ⟨11, 0, 0, A.socks.length, { data := #[] }, 0⟩ := ⟨_, rfl⟩
                    have hrd : readyD ⟨i, a, fateP P a i, true, false⟩ = true := by rw [← HFv.out]; rfl
                    have h1 := (HI.out.endP hrd).symm
                    have h2 := (HI.out.endM hrd).symm
                    have h3 := (HI.out.endE hrd).symm
                    rw [← hE, ← HA2.out] at h1
                    rw [← HA2.out, ← HFv.out] at h2
                    rw [← HA2.out] at h3
                    have h2 : M = endM A2 i := by rw [hM, ← h2]; rfl
                    obtain ⟨⟨x12_c0, x12_c1, x12_c2, x12_c3, x12_c4, x12_c5, x12_c6, x12_c7, x12_c8, x12_c9⟩, x12_f0, x12_f1, x12_f2, x12_f3, x12_f4, x12_f5, x12_f6, x12_f7, x12_f8, x12_f9⟩ := boxes10 Hx12.out
                    have HX := Lib.hid (HEn.out (fun b => b ∈ ([bx7, bx12] : List Nat)) A2 ⟨pg, ag1, cg1, ag2, cg2, ag3, cg3, ag4, cg4⟩ i wI E M 0 (by have := lt_of_block Hx7.out; have := lt_of_block Hx12.out; intro b hb; simp only [List.mem_cons, List.not_mem_nil, or_false] at hb <;> omega) HRm2.out Hf12.out h1 h2 h3)
                    try simp only [Wv.val, Wv.cells] at HX
                    clear h1 h2 h3 hrd
                    go_wp2_with fail
                    with_reducible refine HX.out.mono ?_
                    rintro e wJ ⟨⟨pe, ae1, ce1, ae2, ce2, ae3, ce3, ae4, ce4⟩, rfl, hfl, hb⟩
                    have HEE := Lib.hid hE
                    have HMe := Lib.hid (show M.e = 0 by rw [hM])
                    clear hE hM
                    clear x12_c0 x12_c1 x12_c2 x12_c3 x12_c4 x12_c5 x12_c6 x12_c7 x12_c8 x12_c9 x12_f0 x12_f1 x12_f2 x12_f3 x12_f4 x12_f5 x12_f6 x12_f7 x12_f8 x12_f9
                    replace Hx3 := Lib.hid ((hb.block _ (lt_of_block Hx3.out)).trans Hx3.out)
                    replace Hx4 := Lib.hid ((hb.block _ (lt_of_block Hx4.out)).trans Hx4.out)
                    replace Hx7 := Lib.hid ((hb.block _ (lt_of_block Hx7.out)).trans Hx7.out)
                    replace Hx12 := Lib.hid ((hb.block _ (lt_of_block Hx12.out)).trans Hx12.out)
                    replace Hf7 := Lib.hid (Hf7.out.below hb)
                    replace Hf12 := Lib.hid (Hf12.out.below hb)
                    replace HB := Lib.hid (HB.out.trans (hb.mono HB.out.size))
                    have Hf14 := Lib.hid hfl
                    clear hb hfl HX
                    simp only [Wv.val, Wv.cells, Lt.v]
                    have HI2 := Lib.hid (show FatesInv P a E (i + 1) from by rw [HEE.out]; exact HI.out.ended true)
                    obtain ⟨⟨x12_c0, x12_c1, x12_c2, x12_c3, x12_c4, x12_c5, x12_c6, x12_c7, x12_c8, x12_c9⟩, x12_f0, x12_f1, x12_f2, x12_f3, x12_f4, x12_f5, x12_f6, x12_f7, x12_f8, x12_f9⟩ := boxes10 Hx12.out
                    go_upto_region 21 with fail
                    clear x12_c0 x12_c1 x12_c2 x12_c3 x12_c4 x12_c5 x12_c6 x12_c7 x12_c8 x12_c9 x12_f0 x12_f1 x12_f2 x12_f3 x12_f4 x12_f5 x12_f6 x12_f7 x12_f8 x12_f9
                    obtain ⟨bx14, hdx14⟩ : ∃ b, b = wJ.heap.size := ⟨_, rfl⟩
                    have hgex14 : w.heap.size ≤ bx14 := by rw [hdx14]; exact HB.out.size
                    have hl2 := laid2 wJ (.cells #[.slice pe.za E.plan.zones.length pe.zc, .slice pe.fa E.plan.fates.length pe.fc, .int .i64 E.plan.ticks, .slice pe.da E.plan.drops.length pe.dc, .int .i64 E.clock, .slice ae1 E.socks.length ce1, .slice ae2 E.dials.length ce2, .slice ae3 E.looks.length ce3, .int .i64 E.dropped, .slice ae4 E.marks.length ce4] 33) (.cells #[.int .i8 M.kind, .int .i64 M.fr, .int .i64 M.num, .int .i64 M.sock, .string M.text, .int .i64 M.e] 52)
                    have hb2 := below2 wJ (.cells #[.slice pe.za E.plan.zones.length pe.zc, .slice pe.fa E.plan.fates.length pe.fc, .int .i64 E.plan.ticks, .slice pe.da E.plan.drops.length pe.dc, .int .i64 E.clock, .slice ae1 E.socks.length ce1, .slice ae2 E.dials.length ce2, .slice ae3 E.looks.length ce3, .int .i64 E.dropped, .slice ae4 E.marks.length ce4] 33) (.cells #[.int .i8 M.kind, .int .i64 M.fr, .int .i64 M.num, .int .i64 M.sock, .string M.text, .int .i64 M.e] 52)
                    obtain ⟨W5, hW5⟩ : ∃ X, X = (wJ.alloc (.cells #[.slice pe.za E.plan.zones.length pe.zc, .slice pe.fa E.plan.fates.length pe.fc, .int .i64 E.plan.ticks, .slice pe.da E.plan.drops.length pe.dc, .int .i64 E.clock, .slice ae1 E.socks.length ce1, .slice ae2 E.dials.length ce2, .slice ae3 E.looks.length ce3, .int .i64 E.dropped, .slice ae4 E.marks.length ce4] 33)).alloc (.cells #[.int .i8 M.kind, .int .i64 M.fr, .int .i64 M.num, .int .i64 M.sock, .string M.text, .int .i64 M.e] 52) := ⟨_, rfl⟩
                    rw [← hW5] at hl2 hb2 ⊢
                    clear hW5
                    rw [← hdx14] at hl2 ⊢
                    obtain ⟨bx15, hdx15⟩ : ∃ b, b = bx14 + 1 := ⟨_, rfl⟩
                    rw [← hdx15] at hl2 ⊢
                    have hgex15 : w.heap.size ≤ bx15 := by omega
                    have hltx14x15 : bx14 < bx15 := by omega
                    have hltx3x14 : bx3 < bx14 := by have := lt_of_block Hx3.out; omega
                    have hltx3x15 : bx3 < bx15 := by have := lt_of_block Hx3.out; omega
                    have hltx4x14 : bx4 < bx14 := by have := lt_of_block Hx4.out; omega
                    have hltx4x15 : bx4 < bx15 := by have := lt_of_block Hx4.out; omega
                    have hltx7x14 : bx7 < bx14 := by have := lt_of_block Hx7.out; omega
                    have hltx7x15 : bx7 < bx15 := by have := lt_of_block Hx7.out; omega
                    have hltx12x14 : bx12 < bx14 := by have := lt_of_block Hx12.out; omega
                    have hltx12x15 : bx12 < bx15 := by have := lt_of_block Hx12.out; omega
                    replace Hf7 := Lib.hid (Hf7.out.more (M := (fun b => b ∈ ([bx7, bx12, bx14, bx15] : List Nat))) (by intro b hb; simp only [List.mem_cons, List.not_mem_nil, or_false] at hb ⊢ <;> (first | omega | (right; omega))))
                    replace Hf12 := Lib.hid (Hf12.out.more (M := (fun b => b ∈ ([bx7, bx12, bx14, bx15] : List Nat))) (by intro b hb; simp only [List.mem_cons, List.not_mem_nil, or_false] at hb ⊢ <;> (first | omega | (right; omega))))
                    replace Hf14 := Lib.hid (Hf14.out.more (M := (fun b => b ∈ ([bx7, bx12, bx14, bx15] : List Nat))) (by intro b hb; simp only [List.mem_cons, List.not_mem_nil, or_false] at hb ⊢ <;> (first | omega | (right; omega))))
                    replace Hx3 := Lib.hid ((hb2.block _ (lt_of_block Hx3.out)).trans Hx3.out)
                    replace Hx4 := Lib.hid ((hb2.block _ (lt_of_block Hx4.out)).trans Hx4.out)
                    replace Hx7 := Lib.hid ((hb2.block _ (lt_of_block Hx7.out)).trans Hx7.out)
                    replace Hx12 := Lib.hid ((hb2.block _ (lt_of_block Hx12.out)).trans Hx12.out)
                    replace Hf7 := Lib.hid (Hf7.out.below hb2)
                    replace Hf12 := Lib.hid (Hf12.out.below hb2)
                    replace Hf14 := Lib.hid (Hf14.out.below hb2)
                    replace HB := Lib.hid (HB.out.trans (hb2.mono HB.out.size))
                    replace Hx14 := Lib.hid hl2.1
                    replace Hx15 := Lib.hid hl2.2
                    clear hl2 hb2 hdx14 hdx15
                    have hn : nn = false := by
                      cases nn with
                      | false => rfl
                      | true => have := fate_none (HNn.out rfl) a i; rw [← HFv.out] at this; omega
                    subst hn
                    have hES : E.socks = A.socks ++ [skNew a i 0] := by rw [HEE.out]; unfold endOf; rw [if_pos HFv.out.symm]
                    have hEl : E.socks.length = A.socks.length + 1 := by rw [hES]; simp
                    have hEx : E.socks[A.socks.length]? = some (skNew a i 0) := by rw [hES]; simp
                    obtain ⟨bs, os, hbs, hbl, hats⟩ := Hf14.out.socks.1.2.2.2 (by omega)
                    have hcs := SK.cells hats hEx
                    simp only [skNew] at hcs
                    have HCS := Lib.hid hcs
                    have hAl := row_max Hf7.out.socks.1
                    have hElm := row_max Hf14.out.socks.1
                    have HEL := Lib.hid hEl
                    clear hES hEx hats hcs hbl hEl
                    dsimp only at hbs
                    subst hbs
                    cases gd with
                    | false =>
                      have hEl := HEL.out
                      have hEi : (E.socks.length : Int) = (A.socks.length : Int) + 1 := by omega
                      have hEw : IntKind.i64.wrap ((A.socks.length : Int) + 1) = (A.socks.length : Int) + 1 := by rw [IntKind.wrap_i64]; omega
                      have hEb : ((E.socks.length : Int) != (A.socks.length : Int) + 1) = false := by rw [hEi]; simp
                      have hAi : (A.socks.length : Int) < (E.socks.length : Int) := by omega
                      clear hEi hEl
                      obtain ⟨s0, s1, s2, s3, s4, s5, s6, s7, s8, s9, s10, _⟩ := HCS.out
                      have hnq := neq_self_ad a
                      have hgd := guard_ad
                      have hMe := HMe.out
                      obtain ⟨⟨x4_c0, x4_c1, x4_c2, x4_c3, x4_c4, x4_c5, x4_c6, x4_c7, x4_c8, x4_c9⟩, x4_f0, x4_f1, x4_f2, x4_f3, x4_f4, x4_f5, x4_f6, x4_f7, x4_f8, x4_f9⟩ := boxes10 Hx4.out
                      obtain ⟨⟨x7_c0, x7_c1, x7_c2, x7_c3, x7_c4, x7_c5, x7_c6, x7_c7, x7_c8, x7_c9⟩, x7_f0, x7_f1, x7_f2, x7_f3, x7_f4, x7_f5, x7_f6, x7_f7, x7_f8, x7_f9⟩ := boxes10 Hx7.out
                      obtain ⟨⟨x14_c0, x14_c1, x14_c2, x14_c3, x14_c4, x14_c5, x14_c6, x14_c7, x14_c8, x14_c9⟩, x14_f0, x14_f1, x14_f2, x14_f3, x14_f4, x14_f5, x14_f6, x14_f7, x14_f8, x14_f9⟩ := boxes10 Hx14.out
                      obtain ⟨⟨x15_c0, x15_c1, x15_c2, x15_c3, x15_c4, x15_c5⟩, x15_f0, x15_f1, x15_f2, x15_f3, x15_f4, x15_f5⟩ := boxes6 Hx15.out
                      go_wp2_with fail
                      go_quiet (fail)
                      clear s0 s1 s2 s3 s4 s5 s6 s7 s8 s9 s10 hnq hgd hEb hEw hMe
                      clear x4_c0 x4_c1 x4_c2 x4_c3 x4_c4 x4_c5 x4_c6 x4_c7 x4_c8 x4_c9 x4_f0 x4_f1 x4_f2 x4_f3 x4_f4 x4_f5 x4_f6 x4_f7 x4_f8 x4_f9 x7_c0 x7_c1 x7_c2 x7_c3 x7_c4 x7_c5 x7_c6 x7_c7 x7_c8 x7_c9 x7_f0 x7_f1 x7_f2 x7_f3 x7_f4 x7_f5 x7_f6 x7_f7 x7_f8 x7_f9 x14_c0 x14_c1 x14_c2 x14_c3 x14_c4 x14_c5 x14_c6 x14_c7 x14_c8 x14_c9 x14_f0 x14_f1 x14_f2 x14_f3 x14_f4 x14_f5 x14_f6 x14_f7 x14_f8 x14_f9 x15_c0 x15_c1 x15_c2 x15_c3 x15_c4 x15_c5 x15_f0 x15_f1 x15_f2 x15_f3 x15_f4 x15_f5
                      first | (obtain ⟨W6, hW6⟩ : ∃ X, X = W5.drewN nq := ⟨_, rfl⟩) | (obtain ⟨W6, hW6⟩ : ∃ X, X = W5 := ⟨_, rfl⟩)
                      have hb : Below W5.heap.size W5 W6 := by rw [hW6]; first | exact below_drewN (Below.refl _ _) _ | exact Below.refl _ _
                      rw [← hW6]
                      clear hW6
                      replace Hx3 := Lib.hid ((hb.block _ (lt_of_block Hx3.out)).trans Hx3.out)
                      replace Hx4 := Lib.hid ((hb.block _ (lt_of_block Hx4.out)).trans Hx4.out)
                      replace Hx7 := Lib.hid ((hb.block _ (lt_of_block Hx7.out)).trans Hx7.out)
                      replace Hx12 := Lib.hid ((hb.block _ (lt_of_block Hx12.out)).trans Hx12.out)
                      replace Hx14 := Lib.hid ((hb.block _ (lt_of_block Hx14.out)).trans Hx14.out)
                      replace Hx15 := Lib.hid ((hb.block _ (lt_of_block Hx15.out)).trans Hx15.out)
                      replace Hf7 := Lib.hid (Hf7.out.below hb)
                      replace Hf12 := Lib.hid (Hf12.out.below hb)
                      replace Hf14 := Lib.hid (Hf14.out.below hb)
                      replace HB := Lib.hid (HB.out.trans (hb.mono HB.out.size))
                      clear hb
                      obtain ⟨⟨x7_c0, x7_c1, x7_c2, x7_c3, x7_c4, x7_c5, x7_c6, x7_c7, x7_c8, x7_c9⟩, x7_f0, x7_f1, x7_f2, x7_f3, x7_f4, x7_f5, x7_f6, x7_f7, x7_f8, x7_f9⟩ := boxes10 Hx7.out
                      obtain ⟨⟨x14_c0, x14_c1, x14_c2, x14_c3, x14_c4, x14_c5, x14_c6, x14_c7, x14_c8, x14_c9⟩, x14_f0, x14_f1, x14_f2, x14_f3, x14_f4, x14_f5, x14_f6, x14_f7, x14_f8, x14_f9⟩ := boxes10 Hx14.out
                      go_upto_region 8 with fail
                      clear x7_c0 x7_c1 x7_c2 x7_c3 x7_c4 x7_c5 x7_c6 x7_c7 x7_c8 x7_c9 x7_f0 x7_f1 x7_f2 x7_f3 x7_f4 x7_f5 x7_f6 x7_f7 x7_f8 x7_f9 x14_c0 x14_c1 x14_c2 x14_c3 x14_c4 x14_c5 x14_c6 x14_c7 x14_c8 x14_c9 x14_f0 x14_f1 x14_f2 x14_f3 x14_f4 x14_f5 x14_f6 x14_f7 x14_f8 x14_f9
                      obtain ⟨W7, hW7⟩ : ∃ X, X = set10 W6 bx7 (.slice pe.za E.plan.zones.length pe.zc) (.slice pe.fa E.plan.fates.length pe.fc) (.int .i64 E.plan.ticks) (.slice pe.da E.plan.drops.length pe.dc) (.int .i64 E.clock) (.slice (some ⟨bs, os, none⟩) E.socks.length ce1) (.slice ae2 E.dials.length ce2) (.slice ae3 E.looks.length ce3) (.int .i64 E.dropped) (.slice ae4 E.marks.length ce4) := ⟨_, rfl⟩
                      have hqx7 := set10_at Hx7.out (.slice pe.za E.plan.zones.length pe.zc) (.slice pe.fa E.plan.fates.length pe.fc) (.int .i64 E.plan.ticks) (.slice pe.da E.plan.drops.length pe.dc) (.int .i64 E.clock) (.slice (some ⟨bs, os, none⟩) E.socks.length ce1) (.slice ae2 E.dials.length ce2) (.slice ae3 E.looks.length ce3) (.int .i64 E.dropped) (.slice ae4 E.marks.length ce4)
                      have hb := set10_below HB.out hgex7 (.slice pe.za E.plan.zones.length pe.zc) (.slice pe.fa E.plan.fates.length pe.fc) (.int .i64 E.plan.ticks) (.slice pe.da E.plan.drops.length pe.dc) (.int .i64 E.clock) (.slice (some ⟨bs, os, none⟩) E.socks.length ce1) (.slice ae2 E.dials.length ce2) (.slice ae3 E.looks.length ce3) (.int .i64 E.dropped) (.slice ae4 E.marks.length ce4)
                      have hqx3 := (set10_other W6 bx7 bx3 (.slice pe.za E.plan.zones.length pe.zc) (.slice pe.fa E.plan.fates.length pe.fc) (.int .i64 E.plan.ticks) (.slice pe.da E.plan.drops.length pe.dc) (.int .i64 E.clock) (.slice (some ⟨bs, os, none⟩) E.socks.length ce1) (.slice ae2 E.dials.length ce2) (.slice ae3 E.looks.length ce3) (.int .i64 E.dropped) (.slice ae4 E.marks.length ce4) (by omega)).trans Hx3.out
                      have hqx4 := (set10_other W6 bx7 bx4 (.slice pe.za E.plan.zones.length pe.zc) (.slice pe.fa E.plan.fates.length pe.fc) (.int .i64 E.plan.ticks) (.slice pe.da E.plan.drops.length pe.dc) (.int .i64 E.clock) (.slice (some ⟨bs, os, none⟩) E.socks.length ce1) (.slice ae2 E.dials.length ce2) (.slice ae3 E.looks.length ce3) (.int .i64 E.dropped) (.slice ae4 E.marks.length ce4) (by omega)).trans Hx4.out
                      have hqx12 := (set10_other W6 bx7 bx12 (.slice pe.za E.plan.zones.length pe.zc) (.slice pe.fa E.plan.fates.length pe.fc) (.int .i64 E.plan.ticks) (.slice pe.da E.plan.drops.length pe.dc) (.int .i64 E.clock) (.slice (some ⟨bs, os, none⟩) E.socks.length ce1) (.slice ae2 E.dials.length ce2) (.slice ae3 E.looks.length ce3) (.int .i64 E.dropped) (.slice ae4 E.marks.length ce4) (by omega)).trans Hx12.out
                      have hqx14 := (set10_other W6 bx7 bx14 (.slice pe.za E.plan.zones.length pe.zc) (.slice pe.fa E.plan.fates.length pe.fc) (.int .i64 E.plan.ticks) (.slice pe.da E.plan.drops.length pe.dc) (.int .i64 E.clock) (.slice (some ⟨bs, os, none⟩) E.socks.length ce1) (.slice ae2 E.dials.length ce2) (.slice ae3 E.looks.length ce3) (.int .i64 E.dropped) (.slice ae4 E.marks.length ce4) (by omega)).trans Hx14.out
                      have hqx15 := (set10_other W6 bx7 bx15 (.slice pe.za E.plan.zones.length pe.zc) (.slice pe.fa E.plan.fates.length pe.fc) (.int .i64 E.plan.ticks) (.slice pe.da E.plan.drops.length pe.dc) (.int .i64 E.clock) (.slice (some ⟨bs, os, none⟩) E.socks.length ce1) (.slice ae2 E.dials.length ce2) (.slice ae3 E.looks.length ce3) (.int .i64 E.dropped) (.slice ae4 E.marks.length ce4) (by omega)).trans Hx15.out
                      have hqf7 := set10_flat (b := bx7) Hf7.out (by simp) (.slice pe.za E.plan.zones.length pe.zc) (.slice pe.fa E.plan.fates.length pe.fc) (.int .i64 E.plan.ticks) (.slice pe.da E.plan.drops.length pe.dc) (.int .i64 E.clock) (.slice (some ⟨bs, os, none⟩) E.socks.length ce1) (.slice ae2 E.dials.length ce2) (.slice ae3 E.looks.length ce3) (.int .i64 E.dropped) (.slice ae4 E.marks.length ce4)
                      have hqf12 := set10_flat (b := bx7) Hf12.out (by simp) (.slice pe.za E.plan.zones.length pe.zc) (.slice pe.fa E.plan.fates.length pe.fc) (.int .i64 E.plan.ticks) (.slice pe.da E.plan.drops.length pe.dc) (.int .i64 E.clock) (.slice (some ⟨bs, os, none⟩) E.socks.length ce1) (.slice ae2 E.dials.length ce2) (.slice ae3 E.looks.length ce3) (.int .i64 E.dropped) (.slice ae4 E.marks.length ce4)
                      have hqf14 := set10_flat (b := bx7) Hf14.out (by simp) (.slice pe.za E.plan.zones.length pe.zc) (.slice pe.fa E.plan.fates.length pe.fc) (.int .i64 E.plan.ticks) (.slice pe.da E.plan.drops.length pe.dc) (.int .i64 E.clock) (.slice (some ⟨bs, os, none⟩) E.socks.length ce1) (.slice ae2 E.dials.length ce2) (.slice ae3 E.looks.length ce3) (.int .i64 E.dropped) (.slice ae4 E.marks.length ce4)
                      rw [← hW7] at hqx7 hb hqx3 hqx4 hqx12 hqx14 hqx15 hqf7 hqf12 hqf14
                      unfold set10 at hW7
                      rw [← hW7]
                      clear hW7
                      replace HB := Lib.hid hb
                      replace Hx3 := Lib.hid hqx3
                      replace Hx4 := Lib.hid hqx4
                      replace Hx7 := Lib.hid hqx7
                      replace Hx12 := Lib.hid hqx12
                      replace Hx14 := Lib.hid hqx14
                      replace Hx15 := Lib.hid hqx15
                      replace Hf7 := Lib.hid hqf7
                      replace Hf12 := Lib.hid hqf12
                      replace Hf14 := Lib.hid hqf14
                      clear hqx7 hb hqx3 hqx4 hqx12 hqx14 hqx15 hqf7 hqf12 hqf14
                      have Hrow := Lib.hid (Hf14.out.more (M := (fun b => b ∈ ([bx7] : List Nat))) (by intro b hb; simp only [List.mem_cons, List.not_mem_nil, or_false] at hb ⊢ <;> (first | omega | (right; omega))))
                      have HB := Lib.hid HB.out
                      go_wp2_with fail
                      go_roundw
                      case rel => exact ⟨i + 1, E, pe, (some ⟨bs, os, none⟩), ce1, ae2, ce2, ae3, ce3, ae4, ce4, by go_num, by omega, HI2, Hrow, Hx7, Hx3, Hx4, HB⟩
                      case measure => simp [intOf]; omega
                    | true =>
                      have hEl := HEL.out
                      have hEi : (E.socks.length : Int) = (A.socks.length : Int) + 1 := by omega
                      have hEw : IntKind.i64.wrap ((A.socks.length : Int) + 1) = (A.socks.length : Int) + 1 := by rw [IntKind.wrap_i64]; omega
                      have hEb : ((E.socks.length : Int) != (A.socks.length : Int) + 1) = false := by rw [hEi]; simp
                      have hAi : (A.socks.length : Int) < (E.socks.length : Int) := by omega
                      clear hEi hEl
                      obtain ⟨s0, s1, s2, s3, s4, s5, s6, s7, s8, s9, s10, _⟩ := HCS.out
                      have hnq := neq_self_ad a
                      have hgd := guard_ad
                      have hMe := HMe.out
                      obtain ⟨⟨x4_c0, x4_c1, x4_c2, x4_c3, x4_c4, x4_c5, x4_c6, x4_c7, x4_c8, x4_c9⟩, x4_f0, x4_f1, x4_f2, x4_f3, x4_f4, x4_f5, x4_f6, x4_f7, x4_f8, x4_f9⟩ := boxes10 Hx4.out
                      obtain ⟨⟨x7_c0, x7_c1, x7_c2, x7_c3, x7_c4, x7_c5, x7_c6, x7_c7, x7_c8, x7_c9⟩, x7_f0, x7_f1, x7_f2, x7_f3, x7_f4, x7_f5, x7_f6, x7_f7, x7_f8, x7_f9⟩ := boxes10 Hx7.out
                      obtain ⟨⟨x14_c0, x14_c1, x14_c2, x14_c3, x14_c4, x14_c5, x14_c6, x14_c7, x14_c8, x14_c9⟩, x14_f0, x14_f1, x14_f2, x14_f3, x14_f4, x14_f5, x14_f6, x14_f7, x14_f8, x14_f9⟩ := boxes10 Hx14.out
                      obtain ⟨⟨x15_c0, x15_c1, x15_c2, x15_c3, x15_c4, x15_c5⟩, x15_f0, x15_f1, x15_f2, x15_f3, x15_f4, x15_f5⟩ := boxes6 Hx15.out
                      go_wp2_with fail
                      go_quiet (fail)
                      clear s0 s1 s2 s3 s4 s5 s6 s7 s8 s9 s10 hnq hgd hEb hEw hMe
                      clear x4_c0 x4_c1 x4_c2 x4_c3 x4_c4 x4_c5 x4_c6 x4_c7 x4_c8 x4_c9 x4_f0 x4_f1 x4_f2 x4_f3 x4_f4 x4_f5 x4_f6 x4_f7 x4_f8 x4_f9 x7_c0 x7_c1 x7_c2 x7_c3 x7_c4 x7_c5 x7_c6 x7_c7 x7_c8 x7_c9 x7_f0 x7_f1 x7_f2 x7_f3 x7_f4 x7_f5 x7_f6 x7_f7 x7_f8 x7_f9 x14_c0 x14_c1 x14_c2 x14_c3 x14_c4 x14_c5 x14_c6 x14_c7 x14_c8 x14_c9 x14_f0 x14_f1 x14_f2 x14_f3 x14_f4 x14_f5 x14_f6 x14_f7 x14_f8 x14_f9 x15_c0 x15_c1 x15_c2 x15_c3 x15_c4 x15_c5 x15_f0 x15_f1 x15_f2 x15_f3 x15_f4 x15_f5
                      first | (obtain ⟨W6, hW6⟩ : ∃ X, X = W5.drewN nq := ⟨_, rfl⟩) | (obtain ⟨W6, hW6⟩ : ∃ X, X = W5 := ⟨_, rfl⟩)
                      have hb : Below W5.heap.size W5 W6 := by rw [hW6]; first | exact below_drewN (Below.refl _ _) _ | exact Below.refl _ _
                      rw [← hW6]
                      clear hW6
                      replace Hx3 := Lib.hid ((hb.block _ (lt_of_block Hx3.out)).trans Hx3.out)
                      replace Hx4 := Lib.hid ((hb.block _ (lt_of_block Hx4.out)).trans Hx4.out)
                      replace Hx7 := Lib.hid ((hb.block _ (lt_of_block Hx7.out)).trans Hx7.out)
                      replace Hx12 := Lib.hid ((hb.block _ (lt_of_block Hx12.out)).trans Hx12.out)
                      replace Hx14 := Lib.hid ((hb.block _ (lt_of_block Hx14.out)).trans Hx14.out)
                      replace Hx15 := Lib.hid ((hb.block _ (lt_of_block Hx15.out)).trans Hx15.out)
                      replace Hf7 := Lib.hid (Hf7.out.below hb)
                      replace Hf12 := Lib.hid (Hf12.out.below hb)
                      replace Hf14 := Lib.hid (Hf14.out.below hb)
                      replace HB := Lib.hid (HB.out.trans (hb.mono HB.out.size))
                      clear hb
                      obtain ⟨⟨x7_c0, x7_c1, x7_c2, x7_c3, x7_c4, x7_c5, x7_c6, x7_c7, x7_c8, x7_c9⟩, x7_f0, x7_f1, x7_f2, x7_f3, x7_f4, x7_f5, x7_f6, x7_f7, x7_f8, x7_f9⟩ := boxes10 Hx7.out
                      obtain ⟨⟨x14_c0, x14_c1, x14_c2, x14_c3, x14_c4, x14_c5, x14_c6, x14_c7, x14_c8, x14_c9⟩, x14_f0, x14_f1, x14_f2, x14_f3, x14_f4, x14_f5, x14_f6, x14_f7, x14_f8, x14_f9⟩ := boxes10 Hx14.out
                      go_upto_region 8 with fail
                      clear x7_c0 x7_c1 x7_c2 x7_c3 x7_c4 x7_c5 x7_c6 x7_c7 x7_c8 x7_c9 x7_f0 x7_f1 x7_f2 x7_f3 x7_f4 x7_f5 x7_f6 x7_f7 x7_f8 x7_f9 x14_c0 x14_c1 x14_c2 x14_c3 x14_c4 x14_c5 x14_c6 x14_c7 x14_c8 x14_c9 x14_f0 x14_f1 x14_f2 x14_f3 x14_f4 x14_f5 x14_f6 x14_f7 x14_f8 x14_f9
                      obtain ⟨W7, hW7⟩ : ∃ X, X = set10 W6 bx7 (.slice pe.za E.plan.zones.length pe.zc) (.slice pe.fa E.plan.fates.length pe.fc) (.int .i64 E.plan.ticks) (.slice pe.da E.plan.drops.length pe.dc) (.int .i64 E.clock) (.slice (some ⟨bs, os, none⟩) E.socks.length ce1) (.slice ae2 E.dials.length ce2) (.slice ae3 E.looks.length ce3) (.int .i64 E.dropped) (.slice ae4 E.marks.length ce4) := ⟨_, rfl⟩
                      have hqx7 := set10_at Hx7.out (.slice pe.za E.plan.zones.length pe.zc) (.slice pe.fa E.plan.fates.length pe.fc) (.int .i64 E.plan.ticks) (.slice pe.da E.plan.drops.length pe.dc) (.int .i64 E.clock) (.slice (some ⟨bs, os, none⟩) E.socks.length ce1) (.slice ae2 E.dials.length ce2) (.slice ae3 E.looks.length ce3) (.int .i64 E.dropped) (.slice ae4 E.marks.length ce4)
                      have hb := set10_below HB.out hgex7 (.slice pe.za E.plan.zones.length pe.zc) (.slice pe.fa E.plan.fates.length pe.fc) (.int .i64 E.plan.ticks) (.slice pe.da E.plan.drops.length pe.dc) (.int .i64 E.clock) (.slice (some ⟨bs, os, none⟩) E.socks.length ce1) (.slice ae2 E.dials.length ce2) (.slice ae3 E.looks.length ce3) (.int .i64 E.dropped) (.slice ae4 E.marks.length ce4)
                      have hqx3 := (set10_other W6 bx7 bx3 (.slice pe.za E.plan.zones.length pe.zc) (.slice pe.fa E.plan.fates.length pe.fc) (.int .i64 E.plan.ticks) (.slice pe.da E.plan.drops.length pe.dc) (.int .i64 E.clock) (.slice (some ⟨bs, os, none⟩) E.socks.length ce1) (.slice ae2 E.dials.length ce2) (.slice ae3 E.looks.length ce3) (.int .i64 E.dropped) (.slice ae4 E.marks.length ce4) (by omega)).trans Hx3.out
                      have hqx4 := (set10_other W6 bx7 bx4 (.slice pe.za E.plan.zones.length pe.zc) (.slice pe.fa E.plan.fates.length pe.fc) (.int .i64 E.plan.ticks) (.slice pe.da E.plan.drops.length pe.dc) (.int .i64 E.clock) (.slice (some ⟨bs, os, none⟩) E.socks.length ce1) (.slice ae2 E.dials.length ce2) (.slice ae3 E.looks.length ce3) (.int .i64 E.dropped) (.slice ae4 E.marks.length ce4) (by omega)).trans Hx4.out
                      have hqx12 := (set10_other W6 bx7 bx12 (.slice pe.za E.plan.zones.length pe.zc) (.slice pe.fa E.plan.fates.length pe.fc) (.int .i64 E.plan.ticks) (.slice pe.da E.plan.drops.length pe.dc) (.int .i64 E.clock) (.slice (some ⟨bs, os, none⟩) E.socks.length ce1) (.slice ae2 E.dials.length ce2) (.slice ae3 E.looks.length ce3) (.int .i64 E.dropped) (.slice ae4 E.marks.length ce4) (by omega)).trans Hx12.out
                      have hqx14 := (set10_other W6 bx7 bx14 (.slice pe.za E.plan.zones.length pe.zc) (.slice pe.fa E.plan.fates.length pe.fc) (.int .i64 E.plan.ticks) (.slice pe.da E.plan.drops.length pe.dc) (.int .i64 E.clock) (.slice (some ⟨bs, os, none⟩) E.socks.length ce1) (.slice ae2 E.dials.length ce2) (.slice ae3 E.looks.length ce3) (.int .i64 E.dropped) (.slice ae4 E.marks.length ce4) (by omega)).trans Hx14.out
                      have hqx15 := (set10_other W6 bx7 bx15 (.slice pe.za E.plan.zones.length pe.zc) (.slice pe.fa E.plan.fates.length pe.fc) (.int .i64 E.plan.ticks) (.slice pe.da E.plan.drops.length pe.dc) (.int .i64 E.clock) (.slice (some ⟨bs, os, none⟩) E.socks.length ce1) (.slice ae2 E.dials.length ce2) (.slice ae3 E.looks.length ce3) (.int .i64 E.dropped) (.slice ae4 E.marks.length ce4) (by omega)).trans Hx15.out
                      have hqf7 := set10_flat (b := bx7) Hf7.out (by simp) (.slice pe.za E.plan.zones.length pe.zc) (.slice pe.fa E.plan.fates.length pe.fc) (.int .i64 E.plan.ticks) (.slice pe.da E.plan.drops.length pe.dc) (.int .i64 E.clock) (.slice (some ⟨bs, os, none⟩) E.socks.length ce1) (.slice ae2 E.dials.length ce2) (.slice ae3 E.looks.length ce3) (.int .i64 E.dropped) (.slice ae4 E.marks.length ce4)
                      have hqf12 := set10_flat (b := bx7) Hf12.out (by simp) (.slice pe.za E.plan.zones.length pe.zc) (.slice pe.fa E.plan.fates.length pe.fc) (.int .i64 E.plan.ticks) (.slice pe.da E.plan.drops.length pe.dc) (.int .i64 E.clock) (.slice (some ⟨bs, os, none⟩) E.socks.length ce1) (.slice ae2 E.dials.length ce2) (.slice ae3 E.looks.length ce3) (.int .i64 E.dropped) (.slice ae4 E.marks.length ce4)
                      have hqf14 := set10_flat (b := bx7) Hf14.out (by simp) (.slice pe.za E.plan.zones.length pe.zc) (.slice pe.fa E.plan.fates.length pe.fc) (.int .i64 E.plan.ticks) (.slice pe.da E.plan.drops.length pe.dc) (.int .i64 E.clock) (.slice (some ⟨bs, os, none⟩) E.socks.length ce1) (.slice ae2 E.dials.length ce2) (.slice ae3 E.looks.length ce3) (.int .i64 E.dropped) (.slice ae4 E.marks.length ce4)
                      rw [← hW7] at hqx7 hb hqx3 hqx4 hqx12 hqx14 hqx15 hqf7 hqf12 hqf14
                      unfold set10 at hW7
                      rw [← hW7]
                      clear hW7
                      replace HB := Lib.hid hb
                      replace Hx3 := Lib.hid hqx3
                      replace Hx4 := Lib.hid hqx4
                      replace Hx7 := Lib.hid hqx7
                      replace Hx12 := Lib.hid hqx12
                      replace Hx14 := Lib.hid hqx14
                      replace Hx15 := Lib.hid hqx15
                      replace Hf7 := Lib.hid hqf7
                      replace Hf12 := Lib.hid hqf12
                      replace Hf14 := Lib.hid hqf14
                      clear hqx7 hb hqx3 hqx4 hqx12 hqx14 hqx15 hqf7 hqf12 hqf14
                      have Hrow := Lib.hid (Hf14.out.more (M := (fun b => b ∈ ([bx7] : List Nat))) (by intro b hb; simp only [List.mem_cons, List.not_mem_nil, or_false] at hb ⊢ <;> (first | omega | (right; omega))))
                      have HB := Lib.hid HB.out
                      go_wp2_with fail
                      go_roundw
                      case rel => exact ⟨i + 1, E, pe, (some ⟨bs, os, none⟩), ce1, ae2, ce2, ae3, ce3, ae4, ce4, by go_num, by omega, HI2, Hrow, Hx7, Hx3, Hx4, HB⟩
                      case measure => simp [intOf]; omega
                  · obtain ⟨E, hE⟩ : ∃ X, X = endOf P A a i true := ⟨_, rfl⟩
                    obtain ⟨M, hM⟩ : ∃ X : Lt, X = ⟨11, 0, 0, 0, { data := #[] }, 160⟩ := ⟨_, rfl⟩
                    have hrd : readyD ⟨i, a, fateP P a i, true, false⟩ = true := by rw [← HFv.out]; rfl
                    have h1 := (HI.out.endP hrd).symm
                    have h2 := (HI.out.endM hrd).symm
                    have h3 := (HI.out.endE hrd).symm
                    rw [← hE, ← HA2.out] at h1
                    rw [← HA2.out, ← HFv.out] at h2
                    rw [← HA2.out] at h3
                    have h2 : M = endM A2 i := by rw [hM, ← h2]; rfl
                    obtain ⟨⟨x12_c0, x12_c1, x12_c2, x12_c3, x12_c4, x12_c5, x12_c6, x12_c7, x12_c8, x12_c9⟩, x12_f0, x12_f1, x12_f2, x12_f3, x12_f4, x12_f5, x12_f6, x12_f7, x12_f8, x12_f9⟩ := boxes10 Hx12.out
                    have HX := Lib.hid (HEn.out (fun b => b ∈ ([bx7, bx12] : List Nat)) A2 ⟨pg, ag1, cg1, ag2, cg2, ag3, cg3, ag4, cg4⟩ i wI E M 0 (by have := lt_of_block Hx7.out; have := lt_of_block Hx12.out; intro b hb; simp only [List.mem_cons, List.not_mem_nil, or_false] at hb <;> omega) HRm2.out Hf12.out h1 h2 h3)
                    try simp only [Wv.val, Wv.cells] at HX
                    clear h1 h2 h3 hrd
                    go_wp2_with fail
                    with_reducible refine HX.out.mono ?_
                    rintro e wJ ⟨⟨pe, ae1, ce1, ae2, ce2, ae3, ce3, ae4, ce4⟩, rfl, hfl, hb⟩
                    have HEE := Lib.hid hE
                    have HMe := Lib.hid (show M.e = 160 by rw [hM])
                    clear hE hM
                    clear x12_c0 x12_c1 x12_c2 x12_c3 x12_c4 x12_c5 x12_c6 x12_c7 x12_c8 x12_c9 x12_f0 x12_f1 x12_f2 x12_f3 x12_f4 x12_f5 x12_f6 x12_f7 x12_f8 x12_f9
                    replace Hx3 := Lib.hid ((hb.block _ (lt_of_block Hx3.out)).trans Hx3.out)
                    replace Hx4 := Lib.hid ((hb.block _ (lt_of_block Hx4.out)).trans Hx4.out)
                    replace Hx7 := Lib.hid ((hb.block _ (lt_of_block Hx7.out)).trans Hx7.out)
                    replace Hx12 := Lib.hid ((hb.block _ (lt_of_block Hx12.out)).trans Hx12.out)
                    replace Hf7 := Lib.hid (Hf7.out.below hb)
                    replace Hf12 := Lib.hid (Hf12.out.below hb)
                    replace HB := Lib.hid (HB.out.trans (hb.mono HB.out.size))
                    have Hf14 := Lib.hid hfl
                    clear hb hfl HX
                    simp only [Wv.val, Wv.cells, Lt.v]
                    have HI2 := Lib.hid (show FatesInv P a E (i + 1) from by rw [HEE.out]; exact HI.out.ended true)
                    obtain ⟨⟨x12_c0, x12_c1, x12_c2, x12_c3, x12_c4, x12_c5, x12_c6, x12_c7, x12_c8, x12_c9⟩, x12_f0, x12_f1, x12_f2, x12_f3, x12_f4, x12_f5, x12_f6, x12_f7, x12_f8, x12_f9⟩ := boxes10 Hx12.out
                    go_upto_region 21 with fail
                    clear x12_c0 x12_c1 x12_c2 x12_c3 x12_c4 x12_c5 x12_c6 x12_c7 x12_c8 x12_c9 x12_f0 x12_f1 x12_f2 x12_f3 x12_f4 x12_f5 x12_f6 x12_f7 x12_f8 x12_f9
                    obtain ⟨bx14, hdx14⟩ : ∃ b, b = wJ.heap.size := ⟨_, rfl⟩
                    have hgex14 : w.heap.size ≤ bx14 := by rw [hdx14]; exact HB.out.size
                    have hl2 := laid2 wJ (.cells #[.slice pe.za E.plan.zones.length pe.zc, .slice pe.fa E.plan.fates.length pe.fc, .int .i64 E.plan.ticks, .slice pe.da E.plan.drops.length pe.dc, .int .i64 E.clock, .slice ae1 E.socks.length ce1, .slice ae2 E.dials.length ce2, .slice ae3 E.looks.length ce3, .int .i64 E.dropped, .slice ae4 E.marks.length ce4] 33) (.cells #[.int .i8 M.kind, .int .i64 M.fr, .int .i64 M.num, .int .i64 M.sock, .string M.text, .int .i64 M.e] 52)
                    have hb2 := below2 wJ (.cells #[.slice pe.za E.plan.zones.length pe.zc, .slice pe.fa E.plan.fates.length pe.fc, .int .i64 E.plan.ticks, .slice pe.da E.plan.drops.length pe.dc, .int .i64 E.clock, .slice ae1 E.socks.length ce1, .slice ae2 E.dials.length ce2, .slice ae3 E.looks.length ce3, .int .i64 E.dropped, .slice ae4 E.marks.length ce4] 33) (.cells #[.int .i8 M.kind, .int .i64 M.fr, .int .i64 M.num, .int .i64 M.sock, .string M.text, .int .i64 M.e] 52)
                    obtain ⟨W5, hW5⟩ : ∃ X, X = (wJ.alloc (.cells #[.slice pe.za E.plan.zones.length pe.zc, .slice pe.fa E.plan.fates.length pe.fc, .int .i64 E.plan.ticks, .slice pe.da E.plan.drops.length pe.dc, .int .i64 E.clock, .slice ae1 E.socks.length ce1, .slice ae2 E.dials.length ce2, .slice ae3 E.looks.length ce3, .int .i64 E.dropped, .slice ae4 E.marks.length ce4] 33)).alloc (.cells #[.int .i8 M.kind, .int .i64 M.fr, .int .i64 M.num, .int .i64 M.sock, .string M.text, .int .i64 M.e] 52) := ⟨_, rfl⟩
                    rw [← hW5] at hl2 hb2 ⊢
                    clear hW5
                    rw [← hdx14] at hl2 ⊢
                    obtain ⟨bx15, hdx15⟩ : ∃ b, b = bx14 + 1 := ⟨_, rfl⟩
                    rw [← hdx15] at hl2 ⊢
                    have hgex15 : w.heap.size ≤ bx15 := by omega
                    have hltx14x15 : bx14 < bx15 := by omega
                    have hltx3x14 : bx3 < bx14 := by have := lt_of_block Hx3.out; omega
                    have hltx3x15 : bx3 < bx15 := by have := lt_of_block Hx3.out; omega
                    have hltx4x14 : bx4 < bx14 := by have := lt_of_block Hx4.out; omega
                    have hltx4x15 : bx4 < bx15 := by have := lt_of_block Hx4.out; omega
                    have hltx7x14 : bx7 < bx14 := by have := lt_of_block Hx7.out; omega
                    have hltx7x15 : bx7 < bx15 := by have := lt_of_block Hx7.out; omega
                    have hltx12x14 : bx12 < bx14 := by have := lt_of_block Hx12.out; omega
                    have hltx12x15 : bx12 < bx15 := by have := lt_of_block Hx12.out; omega
                    replace Hf7 := Lib.hid (Hf7.out.more (M := (fun b => b ∈ ([bx7, bx12, bx14, bx15] : List Nat))) (by intro b hb; simp only [List.mem_cons, List.not_mem_nil, or_false] at hb ⊢ <;> (first | omega | (right; omega))))
                    replace Hf12 := Lib.hid (Hf12.out.more (M := (fun b => b ∈ ([bx7, bx12, bx14, bx15] : List Nat))) (by intro b hb; simp only [List.mem_cons, List.not_mem_nil, or_false] at hb ⊢ <;> (first | omega | (right; omega))))
                    replace Hf14 := Lib.hid (Hf14.out.more (M := (fun b => b ∈ ([bx7, bx12, bx14, bx15] : List Nat))) (by intro b hb; simp only [List.mem_cons, List.not_mem_nil, or_false] at hb ⊢ <;> (first | omega | (right; omega))))
                    replace Hx3 := Lib.hid ((hb2.block _ (lt_of_block Hx3.out)).trans Hx3.out)
                    replace Hx4 := Lib.hid ((hb2.block _ (lt_of_block Hx4.out)).trans Hx4.out)
                    replace Hx7 := Lib.hid ((hb2.block _ (lt_of_block Hx7.out)).trans Hx7.out)
                    replace Hx12 := Lib.hid ((hb2.block _ (lt_of_block Hx12.out)).trans Hx12.out)
                    replace Hf7 := Lib.hid (Hf7.out.below hb2)
                    replace Hf12 := Lib.hid (Hf12.out.below hb2)
                    replace Hf14 := Lib.hid (Hf14.out.below hb2)
                    replace HB := Lib.hid (HB.out.trans (hb2.mono HB.out.size))
                    replace Hx14 := Lib.hid hl2.1
                    replace Hx15 := Lib.hid hl2.2
                    clear hl2 hb2 hdx14 hdx15
                    have hg : gd = false := by
                      cases gd with
                      | false => rfl
                      | true => have := fate_good (HGo.out rfl) i; rw [← HFv.out] at this; omega
                    subst hg
                    cases nn with
                    | false =>
                      have hMe := HMe.out
                      obtain ⟨⟨x15_c0, x15_c1, x15_c2, x15_c3, x15_c4, x15_c5⟩, x15_f0, x15_f1, x15_f2, x15_f3, x15_f4, x15_f5⟩ := boxes6 Hx15.out
                      go_wp2_with fail
                      go_quiet (fail)
                      clear hMe
                      clear x15_c0 x15_c1 x15_c2 x15_c3 x15_c4 x15_c5 x15_f0 x15_f1 x15_f2 x15_f3 x15_f4 x15_f5
                      first | (obtain ⟨W6, hW6⟩ : ∃ X, X = W5.drewN nq := ⟨_, rfl⟩) | (obtain ⟨W6, hW6⟩ : ∃ X, X = W5 := ⟨_, rfl⟩)
                      have hb : Below W5.heap.size W5 W6 := by rw [hW6]; first | exact below_drewN (Below.refl _ _) _ | exact Below.refl _ _
                      rw [← hW6]
                      clear hW6
                      replace Hx3 := Lib.hid ((hb.block _ (lt_of_block Hx3.out)).trans Hx3.out)
                      replace Hx4 := Lib.hid ((hb.block _ (lt_of_block Hx4.out)).trans Hx4.out)
                      replace Hx7 := Lib.hid ((hb.block _ (lt_of_block Hx7.out)).trans Hx7.out)
                      replace Hx12 := Lib.hid ((hb.block _ (lt_of_block Hx12.out)).trans Hx12.out)
                      replace Hx14 := Lib.hid ((hb.block _ (lt_of_block Hx14.out)).trans Hx14.out)
                      replace Hx15 := Lib.hid ((hb.block _ (lt_of_block Hx15.out)).trans Hx15.out)
                      replace Hf7 := Lib.hid (Hf7.out.below hb)
                      replace Hf12 := Lib.hid (Hf12.out.below hb)
                      replace Hf14 := Lib.hid (Hf14.out.below hb)
                      replace HB := Lib.hid (HB.out.trans (hb.mono HB.out.size))
                      clear hb
                      obtain ⟨⟨x7_c0, x7_c1, x7_c2, x7_c3, x7_c4, x7_c5, x7_c6, x7_c7, x7_c8, x7_c9⟩, x7_f0, x7_f1, x7_f2, x7_f3, x7_f4, x7_f5, x7_f6, x7_f7, x7_f8, x7_f9⟩ := boxes10 Hx7.out
                      obtain ⟨⟨x14_c0, x14_c1, x14_c2, x14_c3, x14_c4, x14_c5, x14_c6, x14_c7, x14_c8, x14_c9⟩, x14_f0, x14_f1, x14_f2, x14_f3, x14_f4, x14_f5, x14_f6, x14_f7, x14_f8, x14_f9⟩ := boxes10 Hx14.out
                      go_upto_region 8 with fail
                      clear x7_c0 x7_c1 x7_c2 x7_c3 x7_c4 x7_c5 x7_c6 x7_c7 x7_c8 x7_c9 x7_f0 x7_f1 x7_f2 x7_f3 x7_f4 x7_f5 x7_f6 x7_f7 x7_f8 x7_f9 x14_c0 x14_c1 x14_c2 x14_c3 x14_c4 x14_c5 x14_c6 x14_c7 x14_c8 x14_c9 x14_f0 x14_f1 x14_f2 x14_f3 x14_f4 x14_f5 x14_f6 x14_f7 x14_f8 x14_f9
                      obtain ⟨W7, hW7⟩ : ∃ X, X = set10 W6 bx7 (.slice pe.za E.plan.zones.length pe.zc) (.slice pe.fa E.plan.fates.length pe.fc) (.int .i64 E.plan.ticks) (.slice pe.da E.plan.drops.length pe.dc) (.int .i64 E.clock) (.slice ae1 E.socks.length ce1) (.slice ae2 E.dials.length ce2) (.slice ae3 E.looks.length ce3) (.int .i64 E.dropped) (.slice ae4 E.marks.length ce4) := ⟨_, rfl⟩
                      have hqx7 := set10_at Hx7.out (.slice pe.za E.plan.zones.length pe.zc) (.slice pe.fa E.plan.fates.length pe.fc) (.int .i64 E.plan.ticks) (.slice pe.da E.plan.drops.length pe.dc) (.int .i64 E.clock) (.slice ae1 E.socks.length ce1) (.slice ae2 E.dials.length ce2) (.slice ae3 E.looks.length ce3) (.int .i64 E.dropped) (.slice ae4 E.marks.length ce4)
                      have hb := set10_below HB.out hgex7 (.slice pe.za E.plan.zones.length pe.zc) (.slice pe.fa E.plan.fates.length pe.fc) (.int .i64 E.plan.ticks) (.slice pe.da E.plan.drops.length pe.dc) (.int .i64 E.clock) (.slice ae1 E.socks.length ce1) (.slice ae2 E.dials.length ce2) (.slice ae3 E.looks.length ce3) (.int .i64 E.dropped) (.slice ae4 E.marks.length ce4)
                      have hqx3 := (set10_other W6 bx7 bx3 (.slice pe.za E.plan.zones.length pe.zc) (.slice pe.fa E.plan.fates.length pe.fc) (.int .i64 E.plan.ticks) (.slice pe.da E.plan.drops.length pe.dc) (.int .i64 E.clock) (.slice ae1 E.socks.length ce1) (.slice ae2 E.dials.length ce2) (.slice ae3 E.looks.length ce3) (.int .i64 E.dropped) (.slice ae4 E.marks.length ce4) (by omega)).trans Hx3.out
                      have hqx4 := (set10_other W6 bx7 bx4 (.slice pe.za E.plan.zones.length pe.zc) (.slice pe.fa E.plan.fates.length pe.fc) (.int .i64 E.plan.ticks) (.slice pe.da E.plan.drops.length pe.dc) (.int .i64 E.clock) (.slice ae1 E.socks.length ce1) (.slice ae2 E.dials.length ce2) (.slice ae3 E.looks.length ce3) (.int .i64 E.dropped) (.slice ae4 E.marks.length ce4) (by omega)).trans Hx4.out
                      have hqx12 := (set10_other W6 bx7 bx12 (.slice pe.za E.plan.zones.length pe.zc) (.slice pe.fa E.plan.fates.length pe.fc) (.int .i64 E.plan.ticks) (.slice pe.da E.plan.drops.length pe.dc) (.int .i64 E.clock) (.slice ae1 E.socks.length ce1) (.slice ae2 E.dials.length ce2) (.slice ae3 E.looks.length ce3) (.int .i64 E.dropped) (.slice ae4 E.marks.length ce4) (by omega)).trans Hx12.out
                      have hqx14 := (set10_other W6 bx7 bx14 (.slice pe.za E.plan.zones.length pe.zc) (.slice pe.fa E.plan.fates.length pe.fc) (.int .i64 E.plan.ticks) (.slice pe.da E.plan.drops.length pe.dc) (.int .i64 E.clock) (.slice ae1 E.socks.length ce1) (.slice ae2 E.dials.length ce2) (.slice ae3 E.looks.length ce3) (.int .i64 E.dropped) (.slice ae4 E.marks.length ce4) (by omega)).trans Hx14.out
                      have hqx15 := (set10_other W6 bx7 bx15 (.slice pe.za E.plan.zones.length pe.zc) (.slice pe.fa E.plan.fates.length pe.fc) (.int .i64 E.plan.ticks) (.slice pe.da E.plan.drops.length pe.dc) (.int .i64 E.clock) (.slice ae1 E.socks.length ce1) (.slice ae2 E.dials.length ce2) (.slice ae3 E.looks.length ce3) (.int .i64 E.dropped) (.slice ae4 E.marks.length ce4) (by omega)).trans Hx15.out
                      have hqf7 := set10_flat (b := bx7) Hf7.out (by simp) (.slice pe.za E.plan.zones.length pe.zc) (.slice pe.fa E.plan.fates.length pe.fc) (.int .i64 E.plan.ticks) (.slice pe.da E.plan.drops.length pe.dc) (.int .i64 E.clock) (.slice ae1 E.socks.length ce1) (.slice ae2 E.dials.length ce2) (.slice ae3 E.looks.length ce3) (.int .i64 E.dropped) (.slice ae4 E.marks.length ce4)
                      have hqf12 := set10_flat (b := bx7) Hf12.out (by simp) (.slice pe.za E.plan.zones.length pe.zc) (.slice pe.fa E.plan.fates.length pe.fc) (.int .i64 E.plan.ticks) (.slice pe.da E.plan.drops.length pe.dc) (.int .i64 E.clock) (.slice ae1 E.socks.length ce1) (.slice ae2 E.dials.length ce2) (.slice ae3 E.looks.length ce3) (.int .i64 E.dropped) (.slice ae4 E.marks.length ce4)
                      have hqf14 := set10_flat (b := bx7) Hf14.out (by simp) (.slice pe.za E.plan.zones.length pe.zc) (.slice pe.fa E.plan.fates.length pe.fc) (.int .i64 E.plan.ticks) (.slice pe.da E.plan.drops.length pe.dc) (.int .i64 E.clock) (.slice ae1 E.socks.length ce1) (.slice ae2 E.dials.length ce2) (.slice ae3 E.looks.length ce3) (.int .i64 E.dropped) (.slice ae4 E.marks.length ce4)
                      rw [← hW7] at hqx7 hb hqx3 hqx4 hqx12 hqx14 hqx15 hqf7 hqf12 hqf14
                      unfold set10 at hW7
                      rw [← hW7]
                      clear hW7
                      replace HB := Lib.hid hb
                      replace Hx3 := Lib.hid hqx3
                      replace Hx4 := Lib.hid hqx4
                      replace Hx7 := Lib.hid hqx7
                      replace Hx12 := Lib.hid hqx12
                      replace Hx14 := Lib.hid hqx14
                      replace Hx15 := Lib.hid hqx15
                      replace Hf7 := Lib.hid hqf7
                      replace Hf12 := Lib.hid hqf12
                      replace Hf14 := Lib.hid hqf14
                      clear hqx7 hb hqx3 hqx4 hqx12 hqx14 hqx15 hqf7 hqf12 hqf14
                      have Hrow := Lib.hid (Hf14.out.more (M := (fun b => b ∈ ([bx7] : List Nat))) (by intro b hb; simp only [List.mem_cons, List.not_mem_nil, or_false] at hb ⊢ <;> (first | omega | (right; omega))))
                      have HB := Lib.hid HB.out
                      go_wp2_with fail
                      go_roundw
                      case rel => exact ⟨i + 1, E, pe, ae1, ce1, ae2, ce2, ae3, ce3, ae4, ce4, by go_num, by omega, HI2, Hrow, Hx7, Hx3, Hx4, HB⟩
                      case measure => simp [intOf]; omega
                    | true =>
                      have hMe := HMe.out
                      obtain ⟨⟨x15_c0, x15_c1, x15_c2, x15_c3, x15_c4, x15_c5⟩, x15_f0, x15_f1, x15_f2, x15_f3, x15_f4, x15_f5⟩ := boxes6 Hx15.out
                      go_wp2_with fail
                      go_quiet (fail)
                      clear hMe
                      clear x15_c0 x15_c1 x15_c2 x15_c3 x15_c4 x15_c5 x15_f0 x15_f1 x15_f2 x15_f3 x15_f4 x15_f5
                      first | (obtain ⟨W6, hW6⟩ : ∃ X, X = W5.drewN nq := ⟨_, rfl⟩) | (obtain ⟨W6, hW6⟩ : ∃ X, X = W5 := ⟨_, rfl⟩)
                      have hb : Below W5.heap.size W5 W6 := by rw [hW6]; first | exact below_drewN (Below.refl _ _) _ | exact Below.refl _ _
                      rw [← hW6]
                      clear hW6
                      replace Hx3 := Lib.hid ((hb.block _ (lt_of_block Hx3.out)).trans Hx3.out)
                      replace Hx4 := Lib.hid ((hb.block _ (lt_of_block Hx4.out)).trans Hx4.out)
                      replace Hx7 := Lib.hid ((hb.block _ (lt_of_block Hx7.out)).trans Hx7.out)
                      replace Hx12 := Lib.hid ((hb.block _ (lt_of_block Hx12.out)).trans Hx12.out)
                      replace Hx14 := Lib.hid ((hb.block _ (lt_of_block Hx14.out)).trans Hx14.out)
                      replace Hx15 := Lib.hid ((hb.block _ (lt_of_block Hx15.out)).trans Hx15.out)
                      replace Hf7 := Lib.hid (Hf7.out.below hb)
                      replace Hf12 := Lib.hid (Hf12.out.below hb)
                      replace Hf14 := Lib.hid (Hf14.out.below hb)
                      replace HB := Lib.hid (HB.out.trans (hb.mono HB.out.size))
                      clear hb
                      obtain ⟨⟨x7_c0, x7_c1, x7_c2, x7_c3, x7_c4, x7_c5, x7_c6, x7_c7, x7_c8, x7_c9⟩, x7_f0, x7_f1, x7_f2, x7_f3, x7_f4, x7_f5, x7_f6, x7_f7, x7_f8, x7_f9⟩ := boxes10 Hx7.out
                      obtain ⟨⟨x14_c0, x14_c1, x14_c2, x14_c3, x14_c4, x14_c5, x14_c6, x14_c7, x14_c8, x14_c9⟩, x14_f0, x14_f1, x14_f2, x14_f3, x14_f4, x14_f5, x14_f6, x14_f7, x14_f8, x14_f9⟩ := boxes10 Hx14.out
                      go_upto_region 8 with fail
                      clear x7_c0 x7_c1 x7_c2 x7_c3 x7_c4 x7_c5 x7_c6 x7_c7 x7_c8 x7_c9 x7_f0 x7_f1 x7_f2 x7_f3 x7_f4 x7_f5 x7_f6 x7_f7 x7_f8 x7_f9 x14_c0 x14_c1 x14_c2 x14_c3 x14_c4 x14_c5 x14_c6 x14_c7 x14_c8 x14_c9 x14_f0 x14_f1 x14_f2 x14_f3 x14_f4 x14_f5 x14_f6 x14_f7 x14_f8 x14_f9
                      obtain ⟨W7, hW7⟩ : ∃ X, X = set10 W6 bx7 (.slice pe.za E.plan.zones.length pe.zc) (.slice pe.fa E.plan.fates.length pe.fc) (.int .i64 E.plan.ticks) (.slice pe.da E.plan.drops.length pe.dc) (.int .i64 E.clock) (.slice ae1 E.socks.length ce1) (.slice ae2 E.dials.length ce2) (.slice ae3 E.looks.length ce3) (.int .i64 E.dropped) (.slice ae4 E.marks.length ce4) := ⟨_, rfl⟩
                      have hqx7 := set10_at Hx7.out (.slice pe.za E.plan.zones.length pe.zc) (.slice pe.fa E.plan.fates.length pe.fc) (.int .i64 E.plan.ticks) (.slice pe.da E.plan.drops.length pe.dc) (.int .i64 E.clock) (.slice ae1 E.socks.length ce1) (.slice ae2 E.dials.length ce2) (.slice ae3 E.looks.length ce3) (.int .i64 E.dropped) (.slice ae4 E.marks.length ce4)
                      have hb := set10_below HB.out hgex7 (.slice pe.za E.plan.zones.length pe.zc) (.slice pe.fa E.plan.fates.length pe.fc) (.int .i64 E.plan.ticks) (.slice pe.da E.plan.drops.length pe.dc) (.int .i64 E.clock) (.slice ae1 E.socks.length ce1) (.slice ae2 E.dials.length ce2) (.slice ae3 E.looks.length ce3) (.int .i64 E.dropped) (.slice ae4 E.marks.length ce4)
                      have hqx3 := (set10_other W6 bx7 bx3 (.slice pe.za E.plan.zones.length pe.zc) (.slice pe.fa E.plan.fates.length pe.fc) (.int .i64 E.plan.ticks) (.slice pe.da E.plan.drops.length pe.dc) (.int .i64 E.clock) (.slice ae1 E.socks.length ce1) (.slice ae2 E.dials.length ce2) (.slice ae3 E.looks.length ce3) (.int .i64 E.dropped) (.slice ae4 E.marks.length ce4) (by omega)).trans Hx3.out
                      have hqx4 := (set10_other W6 bx7 bx4 (.slice pe.za E.plan.zones.length pe.zc) (.slice pe.fa E.plan.fates.length pe.fc) (.int .i64 E.plan.ticks) (.slice pe.da E.plan.drops.length pe.dc) (.int .i64 E.clock) (.slice ae1 E.socks.length ce1) (.slice ae2 E.dials.length ce2) (.slice ae3 E.looks.length ce3) (.int .i64 E.dropped) (.slice ae4 E.marks.length ce4) (by omega)).trans Hx4.out
                      have hqx12 := (set10_other W6 bx7 bx12 (.slice pe.za E.plan.zones.length pe.zc) (.slice pe.fa E.plan.fates.length pe.fc) (.int .i64 E.plan.ticks) (.slice pe.da E.plan.drops.length pe.dc) (.int .i64 E.clock) (.slice ae1 E.socks.length ce1) (.slice ae2 E.dials.length ce2) (.slice ae3 E.looks.length ce3) (.int .i64 E.dropped) (.slice ae4 E.marks.length ce4) (by omega)).trans Hx12.out
                      have hqx14 := (set10_other W6 bx7 bx14 (.slice pe.za E.plan.zones.length pe.zc) (.slice pe.fa E.plan.fates.length pe.fc) (.int .i64 E.plan.ticks) (.slice pe.da E.plan.drops.length pe.dc) (.int .i64 E.clock) (.slice ae1 E.socks.length ce1) (.slice ae2 E.dials.length ce2) (.slice ae3 E.looks.length ce3) (.int .i64 E.dropped) (.slice ae4 E.marks.length ce4) (by omega)).trans Hx14.out
                      have hqx15 := (set10_other W6 bx7 bx15 (.slice pe.za E.plan.zones.length pe.zc) (.slice pe.fa E.plan.fates.length pe.fc) (.int .i64 E.plan.ticks) (.slice pe.da E.plan.drops.length pe.dc) (.int .i64 E.clock) (.slice ae1 E.socks.length ce1) (.slice ae2 E.dials.length ce2) (.slice ae3 E.looks.length ce3) (.int .i64 E.dropped) (.slice ae4 E.marks.length ce4) (by omega)).trans Hx15.out
                      have hqf7 := set10_flat (b := bx7) Hf7.out (by simp) (.slice pe.za E.plan.zones.length pe.zc) (.slice pe.fa E.plan.fates.length pe.fc) (.int .i64 E.plan.ticks) (.slice pe.da E.plan.drops.length pe.dc) (.int .i64 E.clock) (.slice ae1 E.socks.length ce1) (.slice ae2 E.dials.length ce2) (.slice ae3 E.looks.length ce3) (.int .i64 E.dropped) (.slice ae4 E.marks.length ce4)
                      have hqf12 := set10_flat (b := bx7) Hf12.out (by simp) (.slice pe.za E.plan.zones.length pe.zc) (.slice pe.fa E.plan.fates.length pe.fc) (.int .i64 E.plan.ticks) (.slice pe.da E.plan.drops.length pe.dc) (.int .i64 E.clock) (.slice ae1 E.socks.length ce1) (.slice ae2 E.dials.length ce2) (.slice ae3 E.looks.length ce3) (.int .i64 E.dropped) (.slice ae4 E.marks.length ce4)
                      have hqf14 := set10_flat (b := bx7) Hf14.out (by simp) (.slice pe.za E.plan.zones.length pe.zc) (.slice pe.fa E.plan.fates.length pe.fc) (.int .i64 E.plan.ticks) (.slice pe.da E.plan.drops.length pe.dc) (.int .i64 E.clock) (.slice ae1 E.socks.length ce1) (.slice ae2 E.dials.length ce2) (.slice ae3 E.looks.length ce3) (.int .i64 E.dropped) (.slice ae4 E.marks.length ce4)
                      rw [← hW7] at hqx7 hb hqx3 hqx4 hqx12 hqx14 hqx15 hqf7 hqf12 hqf14
                      unfold set10 at hW7
                      rw [← hW7]
                      clear hW7
                      replace HB := Lib.hid hb
                      replace Hx3 := Lib.hid hqx3
                      replace Hx4 := Lib.hid hqx4
                      replace Hx7 := Lib.hid hqx7
                      replace Hx12 := Lib.hid hqx12
                      replace Hx14 := Lib.hid hqx14
                      replace Hx15 := Lib.hid hqx15
                      replace Hf7 := Lib.hid hqf7
                      replace Hf12 := Lib.hid hqf12
                      replace Hf14 := Lib.hid hqf14
                      clear hqx7 hb hqx3 hqx4 hqx12 hqx14 hqx15 hqf7 hqf12 hqf14
                      have Hrow := Lib.hid (Hf14.out.more (M := (fun b => b ∈ ([bx7] : List Nat))) (by intro b hb; simp only [List.mem_cons, List.not_mem_nil, or_false] at hb ⊢ <;> (first | omega | (right; omega))))
                      have HB := Lib.hid HB.out
                      go_wp2_with fail
                      go_roundw
                      case rel => exact ⟨i + 1, E, pe, ae1, ce1, ae2, ce2, ae3, ce3, ae4, ce4, by go_num, by omega, HI2, Hrow, Hx7, Hx3, Hx4, HB⟩
                      case measure => simp [intOf]; omega
                  · obtain ⟨E, hE⟩ : ∃ X, X = endOf P A a i true := ⟨_, rfl⟩
                    obtain ⟨M, hM⟩ : ∃ X : Lt, X = ⟨11, 0, 0, 0, { data := #[] }, 160⟩ := ⟨_, rfl⟩
                    have hrd : readyD ⟨i, a, fateP P a i, true, false⟩ = true := by rw [← HFv.out]; rfl
                    have h1 := (HI.out.endP hrd).symm
                    have h2 := (HI.out.endM hrd).symm
                    have h3 := (HI.out.endE hrd).symm
                    rw [← hE, ← HA2.out] at h1
                    rw [← HA2.out, ← HFv.out] at h2
                    rw [← HA2.out] at h3
                    have h2 : M = endM A2 i := by rw [hM, ← h2]; rfl
                    obtain ⟨⟨x12_c0, x12_c1, x12_c2, x12_c3, x12_c4, x12_c5, x12_c6, x12_c7, x12_c8, x12_c9⟩, x12_f0, x12_f1, x12_f2, x12_f3, x12_f4, x12_f5, x12_f6, x12_f7, x12_f8, x12_f9⟩ := boxes10 Hx12.out
                    have HX := Lib.hid (HEn.out (fun b => b ∈ ([bx7, bx12] : List Nat)) A2 ⟨pg, ag1, cg1, ag2, cg2, ag3, cg3, ag4, cg4⟩ i wI E M 0 (by have := lt_of_block Hx7.out; have := lt_of_block Hx12.out; intro b hb; simp only [List.mem_cons, List.not_mem_nil, or_false] at hb <;> omega) HRm2.out Hf12.out h1 h2 h3)
                    try simp only [Wv.val, Wv.cells] at HX
                    clear h1 h2 h3 hrd
                    go_wp2_with fail
                    with_reducible refine HX.out.mono ?_
                    rintro e wJ ⟨⟨pe, ae1, ce1, ae2, ce2, ae3, ce3, ae4, ce4⟩, rfl, hfl, hb⟩
                    have HEE := Lib.hid hE
                    have HMe := Lib.hid (show M.e = 160 by rw [hM])
                    clear hE hM
                    clear x12_c0 x12_c1 x12_c2 x12_c3 x12_c4 x12_c5 x12_c6 x12_c7 x12_c8 x12_c9 x12_f0 x12_f1 x12_f2 x12_f3 x12_f4 x12_f5 x12_f6 x12_f7 x12_f8 x12_f9
                    replace Hx3 := Lib.hid ((hb.block _ (lt_of_block Hx3.out)).trans Hx3.out)
                    replace Hx4 := Lib.hid ((hb.block _ (lt_of_block Hx4.out)).trans Hx4.out)
                    replace Hx7 := Lib.hid ((hb.block _ (lt_of_block Hx7.out)).trans Hx7.out)
                    replace Hx12 := Lib.hid ((hb.block _ (lt_of_block Hx12.out)).trans Hx12.out)
                    replace Hf7 := Lib.hid (Hf7.out.below hb)
                    replace Hf12 := Lib.hid (Hf12.out.below hb)
                    replace HB := Lib.hid (HB.out.trans (hb.mono HB.out.size))
                    have Hf14 := Lib.hid hfl
                    clear hb hfl HX
                    simp only [Wv.val, Wv.cells, Lt.v]
                    have HI2 := Lib.hid (show FatesInv P a E (i + 1) from by rw [HEE.out]; exact HI.out.ended true)
                    obtain ⟨⟨x12_c0, x12_c1, x12_c2, x12_c3, x12_c4, x12_c5, x12_c6, x12_c7, x12_c8, x12_c9⟩, x12_f0, x12_f1, x12_f2, x12_f3, x12_f4, x12_f5, x12_f6, x12_f7, x12_f8, x12_f9⟩ := boxes10 Hx12.out
                    go_upto_region 21 with fail
                    clear x12_c0 x12_c1 x12_c2 x12_c3 x12_c4 x12_c5 x12_c6 x12_c7 x12_c8 x12_c9 x12_f0 x12_f1 x12_f2 x12_f3 x12_f4 x12_f5 x12_f6 x12_f7 x12_f8 x12_f9
                    obtain ⟨bx14, hdx14⟩ : ∃ b, b = wJ.heap.size := ⟨_, rfl⟩
                    have hgex14 : w.heap.size ≤ bx14 := by rw [hdx14]; exact HB.out.size
                    have hl2 := laid2 wJ (.cells #[.slice pe.za E.plan.zones.length pe.zc, .slice pe.fa E.plan.fates.length pe.fc, .int .i64 E.plan.ticks, .slice pe.da E.plan.drops.length pe.dc, .int .i64 E.clock, .slice ae1 E.socks.length ce1, .slice ae2 E.dials.length ce2, .slice ae3 E.looks.length ce3, .int .i64 E.dropped, .slice ae4 E.marks.length ce4] 33) (.cells #[.int .i8 M.kind, .int .i64 M.fr, .int .i64 M.num, .int .i64 M.sock, .string M.text, .int .i64 M.e] 52)
                    have hb2 := below2 wJ (.cells #[.slice pe.za E.plan.zones.length pe.zc, .slice pe.fa E.plan.fates.length pe.fc, .int .i64 E.plan.ticks, .slice pe.da E.plan.drops.length pe.dc, .int .i64 E.clock, .slice ae1 E.socks.length ce1, .slice ae2 E.dials.length ce2, .slice ae3 E.looks.length ce3, .int .i64 E.dropped, .slice ae4 E.marks.length ce4] 33) (.cells #[.int .i8 M.kind, .int .i64 M.fr, .int .i64 M.num, .int .i64 M.sock, .string M.text, .int .i64 M.e] 52)
                    obtain ⟨W5, hW5⟩ : ∃ X, X = (wJ.alloc (.cells #[.slice pe.za E.plan.zones.length pe.zc, .slice pe.fa E.plan.fates.length pe.fc, .int .i64 E.plan.ticks, .slice pe.da E.plan.drops.length pe.dc, .int .i64 E.clock, .slice ae1 E.socks.length ce1, .slice ae2 E.dials.length ce2, .slice ae3 E.looks.length ce3, .int .i64 E.dropped, .slice ae4 E.marks.length ce4] 33)).alloc (.cells #[.int .i8 M.kind, .int .i64 M.fr, .int .i64 M.num, .int .i64 M.sock, .string M.text, .int .i64 M.e] 52) := ⟨_, rfl⟩
                    rw [← hW5] at hl2 hb2 ⊢
                    clear hW5
                    rw [← hdx14] at hl2 ⊢
                    obtain ⟨bx15, hdx15⟩ : ∃ b, b = bx14 + 1 := ⟨_, rfl⟩
                    rw [← hdx15] at hl2 ⊢
                    have hgex15 : w.heap.size ≤ bx15 := by omega
                    have hltx14x15 : bx14 < bx15 := by omega
                    have hltx3x14 : bx3 < bx14 := by have := lt_of_block Hx3.out; omega
                    have hltx3x15 : bx3 < bx15 := by have := lt_of_block Hx3.out; omega
                    have hltx4x14 : bx4 < bx14 := by have := lt_of_block Hx4.out; omega
                    have hltx4x15 : bx4 < bx15 := by have := lt_of_block Hx4.out; omega
                    have hltx7x14 : bx7 < bx14 := by have := lt_of_block Hx7.out; omega
                    have hltx7x15 : bx7 < bx15 := by have := lt_of_block Hx7.out; omega
                    have hltx12x14 : bx12 < bx14 := by have := lt_of_block Hx12.out; omega
                    have hltx12x15 : bx12 < bx15 := by have := lt_of_block Hx12.out; omega
                    replace Hf7 := Lib.hid (Hf7.out.more (M := (fun b => b ∈ ([bx7, bx12, bx14, bx15] : List Nat))) (by intro b hb; simp only [List.mem_cons, List.not_mem_nil, or_false] at hb ⊢ <;> (first | omega | (right; omega))))
                    replace Hf12 := Lib.hid (Hf12.out.more (M := (fun b => b ∈ ([bx7, bx12, bx14, bx15] : List Nat))) (by intro b hb; simp only [List.mem_cons, List.not_mem_nil, or_false] at hb ⊢ <;> (first | omega | (right; omega))))
                    replace Hf14 := Lib.hid (Hf14.out.more (M := (fun b => b ∈ ([bx7, bx12, bx14, bx15] : List Nat))) (by intro b hb; simp only [List.mem_cons, List.not_mem_nil, or_false] at hb ⊢ <;> (first | omega | (right; omega))))
                    replace Hx3 := Lib.hid ((hb2.block _ (lt_of_block Hx3.out)).trans Hx3.out)
                    replace Hx4 := Lib.hid ((hb2.block _ (lt_of_block Hx4.out)).trans Hx4.out)
                    replace Hx7 := Lib.hid ((hb2.block _ (lt_of_block Hx7.out)).trans Hx7.out)
                    replace Hx12 := Lib.hid ((hb2.block _ (lt_of_block Hx12.out)).trans Hx12.out)
                    replace Hf7 := Lib.hid (Hf7.out.below hb2)
                    replace Hf12 := Lib.hid (Hf12.out.below hb2)
                    replace Hf14 := Lib.hid (Hf14.out.below hb2)
                    replace HB := Lib.hid (HB.out.trans (hb2.mono HB.out.size))
                    replace Hx14 := Lib.hid hl2.1
                    replace Hx15 := Lib.hid hl2.2
                    clear hl2 hb2 hdx14 hdx15
                    have hg : gd = false := by
                      cases gd with
                      | false => rfl
                      | true => have := fate_good (HGo.out rfl) i; rw [← HFv.out] at this; omega
                    subst hg
                    cases nn with
                    | false =>
                      have hMe := HMe.out
                      obtain ⟨⟨x15_c0, x15_c1, x15_c2, x15_c3, x15_c4, x15_c5⟩, x15_f0, x15_f1, x15_f2, x15_f3, x15_f4, x15_f5⟩ := boxes6 Hx15.out
                      go_wp2_with fail
                      go_quiet (fail)
                      clear hMe
                      clear x15_c0 x15_c1 x15_c2 x15_c3 x15_c4 x15_c5 x15_f0 x15_f1 x15_f2 x15_f3 x15_f4 x15_f5
                      first | (obtain ⟨W6, hW6⟩ : ∃ X, X = W5.drewN nq := ⟨_, rfl⟩) | (obtain ⟨W6, hW6⟩ : ∃ X, X = W5 := ⟨_, rfl⟩)
                      have hb : Below W5.heap.size W5 W6 := by rw [hW6]; first | exact below_drewN (Below.refl _ _) _ | exact Below.refl _ _
                      rw [← hW6]
                      clear hW6
                      replace Hx3 := Lib.hid ((hb.block _ (lt_of_block Hx3.out)).trans Hx3.out)
                      replace Hx4 := Lib.hid ((hb.block _ (lt_of_block Hx4.out)).trans Hx4.out)
                      replace Hx7 := Lib.hid ((hb.block _ (lt_of_block Hx7.out)).trans Hx7.out)
                      replace Hx12 := Lib.hid ((hb.block _ (lt_of_block Hx12.out)).trans Hx12.out)
                      replace Hx14 := Lib.hid ((hb.block _ (lt_of_block Hx14.out)).trans Hx14.out)
                      replace Hx15 := Lib.hid ((hb.block _ (lt_of_block Hx15.out)).trans Hx15.out)
                      replace Hf7 := Lib.hid (Hf7.out.below hb)
                      replace Hf12 := Lib.hid (Hf12.out.below hb)
                      replace Hf14 := Lib.hid (Hf14.out.below hb)
                      replace HB := Lib.hid (HB.out.trans (hb.mono HB.out.size))
                      clear hb
                      obtain ⟨⟨x7_c0, x7_c1, x7_c2, x7_c3, x7_c4, x7_c5, x7_c6, x7_c7, x7_c8, x7_c9⟩, x7_f0, x7_f1, x7_f2, x7_f3, x7_f4, x7_f5, x7_f6, x7_f7, x7_f8, x7_f9⟩ := boxes10 Hx7.out
                      obtain ⟨⟨x14_c0, x14_c1, x14_c2, x14_c3, x14_c4, x14_c5, x14_c6, x14_c7, x14_c8, x14_c9⟩, x14_f0, x14_f1, x14_f2, x14_f3, x14_f4, x14_f5, x14_f6, x14_f7, x14_f8, x14_f9⟩ := boxes10 Hx14.out
                      go_upto_region 8 with fail
                      clear x7_c0 x7_c1 x7_c2 x7_c3 x7_c4 x7_c5 x7_c6 x7_c7 x7_c8 x7_c9 x7_f0 x7_f1 x7_f2 x7_f3 x7_f4 x7_f5 x7_f6 x7_f7 x7_f8 x7_f9 x14_c0 x14_c1 x14_c2 x14_c3 x14_c4 x14_c5 x14_c6 x14_c7 x14_c8 x14_c9 x14_f0 x14_f1 x14_f2 x14_f3 x14_f4 x14_f5 x14_f6 x14_f7 x14_f8 x14_f9
                      obtain ⟨W7, hW7⟩ : ∃ X, X = set10 W6 bx7 (.slice pe.za E.plan.zones.length pe.zc) (.slice pe.fa E.plan.fates.length pe.fc) (.int .i64 E.plan.ticks) (.slice pe.da E.plan.drops.length pe.dc) (.int .i64 E.clock) (.slice ae1 E.socks.length ce1) (.slice ae2 E.dials.length ce2) (.slice ae3 E.looks.length ce3) (.int .i64 E.dropped) (.slice ae4 E.marks.length ce4) := ⟨_, rfl⟩
                      have hqx7 := set10_at Hx7.out (.slice pe.za E.plan.zones.length pe.zc) (.slice pe.fa E.plan.fates.length pe.fc) (.int .i64 E.plan.ticks) (.slice pe.da E.plan.drops.length pe.dc) (.int .i64 E.clock) (.slice ae1 E.socks.length ce1) (.slice ae2 E.dials.length ce2) (.slice ae3 E.looks.length ce3) (.int .i64 E.dropped) (.slice ae4 E.marks.length ce4)
                      have hb := set10_below HB.out hgex7 (.slice pe.za E.plan.zones.length pe.zc) (.slice pe.fa E.plan.fates.length pe.fc) (.int .i64 E.plan.ticks) (.slice pe.da E.plan.drops.length pe.dc) (.int .i64 E.clock) (.slice ae1 E.socks.length ce1) (.slice ae2 E.dials.length ce2) (.slice ae3 E.looks.length ce3) (.int .i64 E.dropped) (.slice ae4 E.marks.length ce4)
                      have hqx3 := (set10_other W6 bx7 bx3 (.slice pe.za E.plan.zones.length pe.zc) (.slice pe.fa E.plan.fates.length pe.fc) (.int .i64 E.plan.ticks) (.slice pe.da E.plan.drops.length pe.dc) (.int .i64 E.clock) (.slice ae1 E.socks.length ce1) (.slice ae2 E.dials.length ce2) (.slice ae3 E.looks.length ce3) (.int .i64 E.dropped) (.slice ae4 E.marks.length ce4) (by omega)).trans Hx3.out
                      have hqx4 := (set10_other W6 bx7 bx4 (.slice pe.za E.plan.zones.length pe.zc) (.slice pe.fa E.plan.fates.length pe.fc) (.int .i64 E.plan.ticks) (.slice pe.da E.plan.drops.length pe.dc) (.int .i64 E.clock) (.slice ae1 E.socks.length ce1) (.slice ae2 E.dials.length ce2) (.slice ae3 E.looks.length ce3) (.int .i64 E.dropped) (.slice ae4 E.marks.length ce4) (by omega)).trans Hx4.out
                      have hqx12 := (set10_other W6 bx7 bx12 (.slice pe.za E.plan.zones.length pe.zc) (.slice pe.fa E.plan.fates.length pe.fc) (.int .i64 E.plan.ticks) (.slice pe.da E.plan.drops.length pe.dc) (.int .i64 E.clock) (.slice ae1 E.socks.length ce1) (.slice ae2 E.dials.length ce2) (.slice ae3 E.looks.length ce3) (.int .i64 E.dropped) (.slice ae4 E.marks.length ce4) (by omega)).trans Hx12.out
                      have hqx14 := (set10_other W6 bx7 bx14 (.slice pe.za E.plan.zones.length pe.zc) (.slice pe.fa E.plan.fates.length pe.fc) (.int .i64 E.plan.ticks) (.slice pe.da E.plan.drops.length pe.dc) (.int .i64 E.clock) (.slice ae1 E.socks.length ce1) (.slice ae2 E.dials.length ce2) (.slice ae3 E.looks.length ce3) (.int .i64 E.dropped) (.slice ae4 E.marks.length ce4) (by omega)).trans Hx14.out
                      have hqx15 := (set10_other W6 bx7 bx15 (.slice pe.za E.plan.zones.length pe.zc) (.slice pe.fa E.plan.fates.length pe.fc) (.int .i64 E.plan.ticks) (.slice pe.da E.plan.drops.length pe.dc) (.int .i64 E.clock) (.slice ae1 E.socks.length ce1) (.slice ae2 E.dials.length ce2) (.slice ae3 E.looks.length ce3) (.int .i64 E.dropped) (.slice ae4 E.marks.length ce4) (by omega)).trans Hx15.out
                      have hqf7 := set10_flat (b := bx7) Hf7.out (by simp) (.slice pe.za E.plan.zones.length pe.zc) (.slice pe.fa E.plan.fates.length pe.fc) (.int .i64 E.plan.ticks) (.slice pe.da E.plan.drops.length pe.dc) (.int .i64 E.clock) (.slice ae1 E.socks.length ce1) (.slice ae2 E.dials.length ce2) (.slice ae3 E.looks.length ce3) (.int .i64 E.dropped) (.slice ae4 E.marks.length ce4)
                      have hqf12 := set10_flat (b := bx7) Hf12.out (by simp) (.slice pe.za E.plan.zones.length pe.zc) (.slice pe.fa E.plan.fates.length pe.fc) (.int .i64 E.plan.ticks) (.slice pe.da E.plan.drops.length pe.dc) (.int .i64 E.clock) (.slice ae1 E.socks.length ce1) (.slice ae2 E.dials.length ce2) (.slice ae3 E.looks.length ce3) (.int .i64 E.dropped) (.slice ae4 E.marks.length ce4)
                      have hqf14 := set10_flat (b := bx7) Hf14.out (by simp) (.slice pe.za E.plan.zones.length pe.zc) (.slice pe.fa E.plan.fates.length pe.fc) (.int .i64 E.plan.ticks) (.slice pe.da E.plan.drops.length pe.dc) (.int .i64 E.clock) (.slice ae1 E.socks.length ce1) (.slice ae2 E.dials.length ce2) (.slice ae3 E.looks.length ce3) (.int .i64 E.dropped) (.slice ae4 E.marks.length ce4)
                      rw [← hW7] at hqx7 hb hqx3 hqx4 hqx12 hqx14 hqx15 hqf7 hqf12 hqf14
                      unfold set10 at hW7
                      rw [← hW7]
                      clear hW7
                      replace HB := Lib.hid hb
                      replace Hx3 := Lib.hid hqx3
                      replace Hx4 := Lib.hid hqx4
                      replace Hx7 := Lib.hid hqx7
                      replace Hx12 := Lib.hid hqx12
                      replace Hx14 := Lib.hid hqx14
                      replace Hx15 := Lib.hid hqx15
                      replace Hf7 := Lib.hid hqf7
                      replace Hf12 := Lib.hid hqf12
                      replace Hf14 := Lib.hid hqf14
                      clear hqx7 hb hqx3 hqx4 hqx12 hqx14 hqx15 hqf7 hqf12 hqf14
                      have Hrow := Lib.hid (Hf14.out.more (M := (fun b => b ∈ ([bx7] : List Nat))) (by intro b hb; simp only [List.mem_cons, List.not_mem_nil, or_false] at hb ⊢ <;> (first | omega | (right; omega))))
                      have HB := Lib.hid HB.out
                      go_wp2_with fail
                      go_roundw
                      case rel => exact ⟨i + 1, E, pe, ae1, ce1, ae2, ce2, ae3, ce3, ae4, ce4, by go_num, by omega, HI2, Hrow, Hx7, Hx3, Hx4, HB⟩
                      case measure => simp [intOf]; omega
                    | true =>
                      have hMe := HMe.out
                      obtain ⟨⟨x15_c0, x15_c1, x15_c2, x15_c3, x15_c4, x15_c5⟩, x15_f0, x15_f1, x15_f2, x15_f3, x15_f4, x15_f5⟩ := boxes6 Hx15.out
                      go_wp2_with fail
                      go_quiet (fail)
                      clear hMe
                      clear x15_c0 x15_c1 x15_c2 x15_c3 x15_c4 x15_c5 x15_f0 x15_f1 x15_f2 x15_f3 x15_f4 x15_f5
                      first | (obtain ⟨W6, hW6⟩ : ∃ X, X = W5.drewN nq := ⟨_, rfl⟩) | (obtain ⟨W6, hW6⟩ : ∃ X, X = W5 := ⟨_, rfl⟩)
                      have hb : Below W5.heap.size W5 W6 := by rw [hW6]; first | exact below_drewN (Below.refl _ _) _ | exact Below.refl _ _
                      rw [← hW6]
                      clear hW6
                      replace Hx3 := Lib.hid ((hb.block _ (lt_of_block Hx3.out)).trans Hx3.out)
                      replace Hx4 := Lib.hid ((hb.block _ (lt_of_block Hx4.out)).trans Hx4.out)
                      replace Hx7 := Lib.hid ((hb.block _ (lt_of_block Hx7.out)).trans Hx7.out)
                      replace Hx12 := Lib.hid ((hb.block _ (lt_of_block Hx12.out)).trans Hx12.out)
                      replace Hx14 := Lib.hid ((hb.block _ (lt_of_block Hx14.out)).trans Hx14.out)
                      replace Hx15 := Lib.hid ((hb.block _ (lt_of_block Hx15.out)).trans Hx15.out)
                      replace Hf7 := Lib.hid (Hf7.out.below hb)
                      replace Hf12 := Lib.hid (Hf12.out.below hb)
                      replace Hf14 := Lib.hid (Hf14.out.below hb)
                      replace HB := Lib.hid (HB.out.trans (hb.mono HB.out.size))
                      clear hb
                      obtain ⟨⟨x7_c0, x7_c1, x7_c2, x7_c3, x7_c4, x7_c5, x7_c6, x7_c7, x7_c8, x7_c9⟩, x7_f0, x7_f1, x7_f2, x7_f3, x7_f4, x7_f5, x7_f6, x7_f7, x7_f8, x7_f9⟩ := boxes10 Hx7.out
                      obtain ⟨⟨x14_c0, x14_c1, x14_c2, x14_c3, x14_c4, x14_c5, x14_c6, x14_c7, x14_c8, x14_c9⟩, x14_f0, x14_f1, x14_f2, x14_f3, x14_f4, x14_f5, x14_f6, x14_f7, x14_f8, x14_f9⟩ := boxes10 Hx14.out
                      go_upto_region 8 with fail
                      clear x7_c0 x7_c1 x7_c2 x7_c3 x7_c4 x7_c5 x7_c6 x7_c7 x7_c8 x7_c9 x7_f0 x7_f1 x7_f2 x7_f3 x7_f4 x7_f5 x7_f6 x7_f7 x7_f8 x7_f9 x14_c0 x14_c1 x14_c2 x14_c3 x14_c4 x14_c5 x14_c6 x14_c7 x14_c8 x14_c9 x14_f0 x14_f1 x14_f2 x14_f3 x14_f4 x14_f5 x14_f6 x14_f7 x14_f8 x14_f9
                      obtain ⟨W7, hW7⟩ : ∃ X, X = set10 W6 bx7 (.slice pe.za E.plan.zones.length pe.zc) (.slice pe.fa E.plan.fates.length pe.fc) (.int .i64 E.plan.ticks) (.slice pe.da E.plan.drops.length pe.dc) (.int .i64 E.clock) (.slice ae1 E.socks.length ce1) (.slice ae2 E.dials.length ce2) (.slice ae3 E.looks.length ce3) (.int .i64 E.dropped) (.slice ae4 E.marks.length ce4) := ⟨_, rfl⟩
                      have hqx7 := set10_at Hx7.out (.slice pe.za E.plan.zones.length pe.zc) (.slice pe.fa E.plan.fates.length pe.fc) (.int .i64 E.plan.ticks) (.slice pe.da E.plan.drops.length pe.dc) (.int .i64 E.clock) (.slice ae1 E.socks.length ce1) (.slice ae2 E.dials.length ce2) (.slice ae3 E.looks.length ce3) (.int .i64 E.dropped) (.slice ae4 E.marks.length ce4)
                      have hb := set10_below HB.out hgex7 (.slice pe.za E.plan.zones.length pe.zc) (.slice pe.fa E.plan.fates.length pe.fc) (.int .i64 E.plan.ticks) (.slice pe.da E.plan.drops.length pe.dc) (.int .i64 E.clock) (.slice ae1 E.socks.length ce1) (.slice ae2 E.dials.length ce2) (.slice ae3 E.looks.length ce3) (.int .i64 E.dropped) (.slice ae4 E.marks.length ce4)
                      have hqx3 := (set10_other W6 bx7 bx3 (.slice pe.za E.plan.zones.length pe.zc) (.slice pe.fa E.plan.fates.length pe.fc) (.int .i64 E.plan.ticks) (.slice pe.da E.plan.drops.length pe.dc) (.int .i64 E.clock) (.slice ae1 E.socks.length ce1) (.slice ae2 E.dials.length ce2) (.slice ae3 E.looks.length ce3) (.int .i64 E.dropped) (.slice ae4 E.marks.length ce4) (by omega)).trans Hx3.out
                      have hqx4 := (set10_other W6 bx7 bx4 (.slice pe.za E.plan.zones.length pe.zc) (.slice pe.fa E.plan.fates.length pe.fc) (.int .i64 E.plan.ticks) (.slice pe.da E.plan.drops.length pe.dc) (.int .i64 E.clock) (.slice ae1 E.socks.length ce1) (.slice ae2 E.dials.length ce2) (.slice ae3 E.looks.length ce3) (.int .i64 E.dropped) (.slice ae4 E.marks.length ce4) (by omega)).trans Hx4.out
                      have hqx12 := (set10_other W6 bx7 bx12 (.slice pe.za E.plan.zones.length pe.zc) (.slice pe.fa E.plan.fates.length pe.fc) (.int .i64 E.plan.ticks) (.slice pe.da E.plan.drops.length pe.dc) (.int .i64 E.clock) (.slice ae1 E.socks.length ce1) (.slice ae2 E.dials.length ce2) (.slice ae3 E.looks.length ce3) (.int .i64 E.dropped) (.slice ae4 E.marks.length ce4) (by omega)).trans Hx12.out
                      have hqx14 := (set10_other W6 bx7 bx14 (.slice pe.za E.plan.zones.length pe.zc) (.slice pe.fa E.plan.fates.length pe.fc) (.int .i64 E.plan.ticks) (.slice pe.da E.plan.drops.length pe.dc) (.int .i64 E.clock) (.slice ae1 E.socks.length ce1) (.slice ae2 E.dials.length ce2) (.slice ae3 E.looks.length ce3) (.int .i64 E.dropped) (.slice ae4 E.marks.length ce4) (by omega)).trans Hx14.out
                      have hqx15 := (set10_other W6 bx7 bx15 (.slice pe.za E.plan.zones.length pe.zc) (.slice pe.fa E.plan.fates.length pe.fc) (.int .i64 E.plan.ticks) (.slice pe.da E.plan.drops.length pe.dc) (.int .i64 E.clock) (.slice ae1 E.socks.length ce1) (.slice ae2 E.dials.length ce2) (.slice ae3 E.looks.length ce3) (.int .i64 E.dropped) (.slice ae4 E.marks.length ce4) (by omega)).trans Hx15.out
                      have hqf7 := set10_flat (b := bx7) Hf7.out (by simp) (.slice pe.za E.plan.zones.length pe.zc) (.slice pe.fa E.plan.fates.length pe.fc) (.int .i64 E.plan.ticks) (.slice pe.da E.plan.drops.length pe.dc) (.int .i64 E.clock) (.slice ae1 E.socks.length ce1) (.slice ae2 E.dials.length ce2) (.slice ae3 E.looks.length ce3) (.int .i64 E.dropped) (.slice ae4 E.marks.length ce4)
                      have hqf12 := set10_flat (b := bx7) Hf12.out (by simp) (.slice pe.za E.plan.zones.length pe.zc) (.slice pe.fa E.plan.fates.length pe.fc) (.int .i64 E.plan.ticks) (.slice pe.da E.plan.drops.length pe.dc) (.int .i64 E.clock) (.slice ae1 E.socks.length ce1) (.slice ae2 E.dials.length ce2) (.slice ae3 E.looks.length ce3) (.int .i64 E.dropped) (.slice ae4 E.marks.length ce4)
                      have hqf14 := set10_flat (b := bx7) Hf14.out (by simp) (.slice pe.za E.plan.zones.length pe.zc) (.slice pe.fa E.plan.fates.length pe.fc) (.int .i64 E.plan.ticks) (.slice pe.da E.plan.drops.length pe.dc) (.int .i64 E.clock) (.slice ae1 E.socks.length ce1) (.slice ae2 E.dials.length ce2) (.slice ae3 E.looks.length ce3) (.int .i64 E.dropped) (.slice ae4 E.marks.length ce4)
                      rw [← hW7] at hqx7 hb hqx3 hqx4 hqx12 hqx14 hqx15 hqf7 hqf12 hqf14
                      unfold set10 at hW7
                      rw [← hW7]
                      clear hW7
                      replace HB := Lib.hid hb
                      replace Hx3 := Lib.hid hqx3
                      replace Hx4 := Lib.hid hqx4
                      replace Hx7 := Lib.hid hqx7
                      replace Hx12 := Lib.hid hqx12
                      replace Hx14 := Lib.hid hqx14
                      replace Hx15 := Lib.hid hqx15
                      replace Hf7 := Lib.hid hqf7
                      replace Hf12 := Lib.hid hqf12
                      replace Hf14 := Lib.hid hqf14
                      clear hqx7 hb hqx3 hqx4 hqx12 hqx14 hqx15 hqf7 hqf12 hqf14
                      have Hrow := Lib.hid (Hf14.out.more (M := (fun b => b ∈ ([bx7] : List Nat))) (by intro b hb; simp only [List.mem_cons, List.not_mem_nil, or_false] at hb ⊢ <;> (first | omega | (right; omega))))
                      have HB := Lib.hid HB.out
                      go_wp2_with fail
                      go_roundw
                      case rel => exact ⟨i + 1, E, pe, ae1, ce1, ae2, ce2, ae3, ce3, ae4, ce4, by go_num, by omega, HI2, Hrow, Hx7, Hx3, Hx4, HB⟩
                      case measure => simp [intOf]; omega
              · obtain rfl : i = L.length := by omega
                go_wp2_with fail
                with_reducible refine (HWk.out _).mono ?_
                rintro e wf ⟨rfl, hb⟩
                have HBf := Lib.hid (HB.out.trans (hb.mono HB.out.size))
                clear hb
                go_wp2_with fail
                go_ret
                exact ⟨rfl, HBf.out⟩
  · obtain ⟨h1, h2⟩ := new_no hck
    obtain ⟨⟨x3_c0, x3_c1, x3_c2, x3_c3⟩, x3_f0, x3_f1, x3_f2, x3_f3⟩ := box4 Hx3.out
    obtain ⟨⟨x4_c0, x4_c1, x4_c2, x4_c3, x4_c4, x4_c5, x4_c6, x4_c7, x4_c8, x4_c9⟩, x4_f0, x4_f1, x4_f2, x4_f3, x4_f4, x4_f5, x4_f6, x4_f7, x4_f8, x4_f9⟩ := boxes10 Hx4.out
    have HX := Lib.hid (HN0.out (fun b => b ∈ ([] : List Nat)) W1 _ _ (by intro b hb; simp only [List.mem_cons, List.not_mem_nil, or_false] at hb <;> omega) (HPL.out W1 HB.out) h1 h2)
    try simp only [Wv.val, Wv.cells] at HX
    go_wp2_with fail
    with_reducible refine HX.out.mono ?_
    rintro e wA ⟨⟨p1, a11, c11, a12, c12, a13, c13, a14, c14⟩, rfl, hfl, hb⟩
    clear h1 h2
    clear x3_c0 x3_c1 x3_c2 x3_c3 x3_f0 x3_f1 x3_f2 x3_f3 x4_c0 x4_c1 x4_c2 x4_c3 x4_c4 x4_c5 x4_c6 x4_c7 x4_c8 x4_c9 x4_f0 x4_f1 x4_f2 x4_f3 x4_f4 x4_f5 x4_f6 x4_f7 x4_f8 x4_f9
    replace Hx3 := Lib.hid ((hb.block _ (lt_of_block Hx3.out)).trans Hx3.out)
    replace Hx4 := Lib.hid ((hb.block _ (lt_of_block Hx4.out)).trans Hx4.out)
    replace HB := Lib.hid (HB.out.trans (hb.mono HB.out.size))
    have Hf7 := Lib.hid hfl
    clear hb hfl HX
    simp only [Wv.val, Wv.cells, Lt.v]
    obtain ⟨⟨x3_c0, x3_c1, x3_c2, x3_c3⟩, x3_f0, x3_f1, x3_f2, x3_f3⟩ := box4 Hx3.out
    obtain ⟨⟨x4_c0, x4_c1, x4_c2, x4_c3, x4_c4, x4_c5, x4_c6, x4_c7, x4_c8, x4_c9⟩, x4_f0, x4_f1, x4_f2, x4_f3, x4_f4, x4_f5, x4_f6, x4_f7, x4_f8, x4_f9⟩ := boxes10 Hx4.out
    go_upto_region 2 with fail
    clear x3_c0 x3_c1 x3_c2 x3_c3 x3_f0 x3_f1 x3_f2 x3_f3 x4_c0 x4_c1 x4_c2 x4_c3 x4_c4 x4_c5 x4_c6 x4_c7 x4_c8 x4_c9 x4_f0 x4_f1 x4_f2 x4_f3 x4_f4 x4_f5 x4_f6 x4_f7 x4_f8 x4_f9
    obtain ⟨bx7, hdx7⟩ : ∃ b, b = wA.heap.size := ⟨_, rfl⟩
    have hgex7 : w.heap.size ≤ bx7 := by rw [hdx7]; exact HB.out.size
    have hltx3x7 : bx3 < bx7 := by rw [hdx7]; exact lt_of_block Hx3.out
    have hltx4x7 : bx4 < bx7 := by rw [hdx7]; exact lt_of_block Hx4.out
    obtain ⟨W2, hW2⟩ : ∃ X, X = wA.alloc (.cells #[.slice p1.za (Wo.new Pl.zero).plan.zones.length p1.zc, .slice p1.fa (Wo.new Pl.zero).plan.fates.length p1.fc, .int .i64 (Wo.new Pl.zero).plan.ticks, .slice p1.da (Wo.new Pl.zero).plan.drops.length p1.dc, .int .i64 (Wo.new Pl.zero).clock, .slice a11 (Wo.new Pl.zero).socks.length c11, .slice a12 (Wo.new Pl.zero).dials.length c12, .slice a13 (Wo.new Pl.zero).looks.length c13, .int .i64 (Wo.new Pl.zero).dropped, .slice a14 (Wo.new Pl.zero).marks.length c14] 33) := ⟨_, rfl⟩
    have hlx7 := laid1 wA (.cells #[.slice p1.za (Wo.new Pl.zero).plan.zones.length p1.zc, .slice p1.fa (Wo.new Pl.zero).plan.fates.length p1.fc, .int .i64 (Wo.new Pl.zero).plan.ticks, .slice p1.da (Wo.new Pl.zero).plan.drops.length p1.dc, .int .i64 (Wo.new Pl.zero).clock, .slice a11 (Wo.new Pl.zero).socks.length c11, .slice a12 (Wo.new Pl.zero).dials.length c12, .slice a13 (Wo.new Pl.zero).looks.length c13, .int .i64 (Wo.new Pl.zero).dropped, .slice a14 (Wo.new Pl.zero).marks.length c14] 33)
    have hbx7 := below1 wA (.cells #[.slice p1.za (Wo.new Pl.zero).plan.zones.length p1.zc, .slice p1.fa (Wo.new Pl.zero).plan.fates.length p1.fc, .int .i64 (Wo.new Pl.zero).plan.ticks, .slice p1.da (Wo.new Pl.zero).plan.drops.length p1.dc, .int .i64 (Wo.new Pl.zero).clock, .slice a11 (Wo.new Pl.zero).socks.length c11, .slice a12 (Wo.new Pl.zero).dials.length c12, .slice a13 (Wo.new Pl.zero).looks.length c13, .int .i64 (Wo.new Pl.zero).dropped, .slice a14 (Wo.new Pl.zero).marks.length c14] 33)
    rw [← hW2] at hlx7 hbx7 ⊢
    clear hW2
    replace Hf7 := Lib.hid (Hf7.out.more (M := (fun b => b ∈ ([bx7] : List Nat))) (by intro b hb; simp only [List.mem_cons, List.not_mem_nil, or_false] at hb ⊢ <;> (first | omega | (right; omega))))
    replace Hx3 := Lib.hid ((hbx7.block _ (lt_of_block Hx3.out)).trans Hx3.out)
    replace Hx4 := Lib.hid ((hbx7.block _ (lt_of_block Hx4.out)).trans Hx4.out)
    replace Hf7 := Lib.hid (Hf7.out.below hbx7)
    replace HB := Lib.hid (HB.out.trans (hbx7.mono HB.out.size))
    rw [← hdx7] at hlx7 ⊢
    replace Hx7 := Lib.hid hlx7
    clear hlx7 hbx7 hdx7
    obtain ⟨⟨x3_c0, x3_c1, x3_c2, x3_c3⟩, x3_f0, x3_f1, x3_f2, x3_f3⟩ := box4 Hx3.out
    obtain ⟨⟨x4_c0, x4_c1, x4_c2, x4_c3, x4_c4, x4_c5, x4_c6, x4_c7, x4_c8, x4_c9⟩, x4_f0, x4_f1, x4_f2, x4_f3, x4_f4, x4_f5, x4_f6, x4_f7, x4_f8, x4_f9⟩ := boxes10 Hx4.out
    have HX := Lib.hid (HGp.out W2 (HPL.out W2 HB.out))
    try simp only [Wv.val, Wv.cells] at HX
    go_wp2_with fail
    with_reducible refine HX.out.mono ?_
    rintro e wB ⟨⟨rp, rfl, hfew⟩, hb⟩
    clear hfew HX
    clear x3_c0 x3_c1 x3_c2 x3_c3 x3_f0 x3_f1 x3_f2 x3_f3 x4_c0 x4_c1 x4_c2 x4_c3 x4_c4 x4_c5 x4_c6 x4_c7 x4_c8 x4_c9 x4_f0 x4_f1 x4_f2 x4_f3 x4_f4 x4_f5 x4_f6 x4_f7 x4_f8 x4_f9
    replace Hx3 := Lib.hid ((hb.block _ (lt_of_block Hx3.out)).trans Hx3.out)
    replace Hx4 := Lib.hid ((hb.block _ (lt_of_block Hx4.out)).trans Hx4.out)
    replace Hx7 := Lib.hid ((hb.block _ (lt_of_block Hx7.out)).trans Hx7.out)
    replace Hf7 := Lib.hid (Hf7.out.below hb)
    replace HB := Lib.hid (HB.out.trans (hb.mono HB.out.size))
    clear hb
    cases rp with
    | true =>
      go_wp2_with fail
      with_reducible refine (HWk.out _).mono ?_
      rintro e wf ⟨rfl, hb⟩
      have HBf := Lib.hid (HB.out.trans (hb.mono HB.out.size))
      clear hb
      go_wp2_with fail
      go_ret
      exact ⟨rfl, HBf.out⟩
    | false =>
      go_wp2_with fail
      with_reducible refine (HWk.out _).mono ?_
      rintro e wf ⟨rfl, hb⟩
      have HBf := Lib.hid (HB.out.trans (hb.mono HB.out.size))
      clear hb
      go_wp2_with fail
      go_ret
      exact ⟨rfl, HBf.out⟩
end Go.Proofs.Ytciohjgcndgiaaa
