/- Who is good, walked. -/
import Derived.Test.YtlceeeajhejedaaGoodP
import Derived.Test.YtlceeeajhejedaaCheckP
import Derived.Deep.RegionHeld3
import Derived.Deep.RegionLaw
set_option linter.unusedSimpArgs false
set_option linter.unusedVariables false
namespace Go.Proofs.Ytlceeeajhejedaa
open Go.RowKit Go.Maps Go.Proofs.Ytlceeeajhejedaa.Kind

theorem find_at {α : Type} {p : α → Bool} {l : List α} {k : Nat} {x : α} (hx : l[k]? = some x) (hp : p x = true) (h : NoneTo p l k) : l.find? p = some x := by
  obtain ⟨hk, e⟩ := List.getElem?_eq_some_iff.1 hx
  rw [List.find?_eq_some_iff_getElem]
  exact ⟨hp, k, hk, e, fun j hj => by have := h j l[j] hj (List.getElem?_eq_getElem (by omega)); simp [this]⟩
theorem find_none {α : Type} {p : α → Bool} {l : List α} (h : NoneTo p l l.length) : l.find? p = none := by
  rw [List.find?_eq_none]
  intro x hx
  obtain ⟨j, hj, e⟩ := List.getElem_of_mem hx
  simp [h j x hj (by rw [List.getElem?_eq_getElem hj, e])]

set_option maxHeartbeats 4000000 in
set_option maxRecDepth 1000000 in
theorem worst_any (l : List Int) (m : Nat) (hm : m = l.length) (a : Option Addr) (c : Nat) (w : World) (hR : JK.RowC w a c l) :
    Calls Try.prog 29 #[.slice a m c] w fun e w' => e = .returned (.int .i8 (worstP l)) ∧ w = w' := by
  subst hm
  have hlen : (l.length : Int) ≤ 9223372036854775807 := len_int _ (Nat.le_trans hR.1 hR.2.1)
  have HR := Lib.hid hR
  clear hR
  by_cases h0 : l.length = 0
  · have HW := Lib.hid (show worstP l = 1 by unfold worstP; rw [if_pos h0])
    have h0i : ((l.length : Int) == 0) = true := by rw [h0]; rfl
    generalize l.length = n at *
    clear h0
    go_enter Try.func29, Try.ntmps29
    go_wp2_with fail
    go_ret
    exact ⟨by rw [HW.out]; rfl, rfl⟩
  · have HW := Lib.hid (show worstP l = (l.find? (fun x => decide (x ≠ 0))).getD 0 by unfold worstP; rw [if_neg h0])
    have h0i : ((l.length : Int) == 0) = false := by rw [beq_eq_false_iff_ne]; omega
    obtain ⟨n, hn⟩ : ∃ n, n = l.length := ⟨_, rfl⟩
    rw [← hn] at h0i hlen h0 ⊢
    have HE := Lib.hid hn
    clear hn
    go_enter Try.func29, Try.ntmps29
    go_wp2_with fail
    go_loopw [10] (fun i wr => ∃ k : Nat, i = .int .i64 k ∧ k ≤ n ∧ Hid (NoneTo (fun x : Int => decide (x ≠ 0)) l k) ∧ w = wr) (fun i _ => n - (intOf i).toNat)
    case atStart => exact ⟨0, rfl, by omega, Lib.hid (noneTo_zero _ _), by first | rfl | trivial⟩
    case round =>
      obtain ⟨k, rfl, hk, hno, rfl⟩ := hrel
      have HN := Lib.hid hno.out
      clear hno
      by_cases hki : k < n
      · obtain ⟨y, hy⟩ : ∃ y, l[k]? = some y := ⟨_, List.getElem?_eq_getElem (by rw [← HE.out]; exact hki)⟩
        obtain ⟨b, o, rfl, hbl, hat⟩ := HR.out.2.2.2 (by rw [← HE.out]; omega)
        have y0 := JK.one hat hy
        have HX := Lib.hid hy
        clear hy hat
        by_cases hq : y = 0
        · have hqi : (y == 0) = true := by simp [hq]
          have HQ := Lib.hid hq
          clear hq
          go_wp2_with fail
          go_roundw
          case rel => exact ⟨k + 1, by go_num, by omega, Lib.hid (noneTo_step HN.out HX.out (by simp [HQ.out])), by first | rfl | trivial⟩
          case measure => simp [intOf]; omega
        · have hqi : (y == 0) = false := by simp [hq]
          have HQ := Lib.hid hq
          clear hq
          go_wp2_with fail
          go_ret
          exact ⟨by rw [HW.out, find_at HX.out (by simp [HQ.out]) HN.out]; rfl, rfl⟩
      · obtain rfl : k = n := by omega
        have HN2 := Lib.hid (show NoneTo (fun x : Int => decide (x ≠ 0)) l l.length by rw [← HE.out]; exact HN.out)
        go_wp2_with fail
        go_ret
        exact ⟨by rw [HW.out, find_none HN2.out]; rfl, rfl⟩

theorem map_below {H : Type} {Pr : Program} {k : TypeId} {R : Value → Option (DataW H × List MemPlace)} {b n : Nat} {D : DataW H} {w w' : World} (h : w.ownsMap Pr k R b n D) (hb : Below w.heap.size w w') : w'.ownsMap Pr k R b n D := by
  have hlt := h.lt
  obtain ⟨es, clock, h1, h2⟩ := h
  exact ⟨es, clock, (hb.block b hlt).trans h1, h2⟩
theorem zero_i8 (w : World) : (zeroValue 27).run Try.prog w = .ok (.int .i8 0) w := by kernel_rfl

set_option maxHeartbeats 8000000 in
set_option maxRecDepth 1000000 in
theorem worsts_any (P : Pl) (hs : List Fv) (a : Option Addr) (c : Nat) (w : World) (hF : FK.NestC FoP w a c hs P.fates) (hO : ∀ f ∈ P.fates, okA f.ad) :
    Calls Try.prog 22 #[.slice a P.fates.length c] w fun e w' => ∃ D n, e = .returned (.map (some w.heap.size)) ∧ w'.ownsMap Try.prog 31 rawF w.heap.size n D ∧ WorstTo P D P.fates.length ∧ Below w.heap.size w w' := by
  have hlen : (P.fates.length : Int) ≤ 9223372036854775807 := len_int _ (by have h1 := hF.1; have h2 := hF.2.1.1; have h3 := hF.2.1.2.1; omega)
  have HF := Lib.hid hF
  have HOk := Lib.hid hO
  have HLw := Lib.hid law_ad
  have hmm := @run_makeMap Try.prog
  have HO0 := Lib.hid (World.ownsMap_made w Try.prog 31 rawF)
  clear hF hO
  go_enter Try.func22, Try.ntmps22
  go_wp2_with fail
  go_loopw [11] (fun i wr => ∃ (k n : Nat) (D : DataW Unit), i = .int .i64 k ∧ k ≤ P.fates.length ∧ Hid (n ≤ k) ∧ Hid (wr.ownsMap Try.prog 31 rawF w.heap.size n D) ∧ Hid (WorstTo P D k) ∧ Below w.heap.size w wr) (fun i _ => P.fates.length - (intOf i).toNat)
  case atStart => exact ⟨0, 0, _, rfl, by omega, Lib.hid (Nat.le_refl _), HO0, Lib.hid (worstTo_zero P), below1 _ _⟩
  case round =>
    obtain ⟨k, n, D, rfl, hk, hn, ho, hh, hb⟩ := hrel
    have HN := Lib.hid hn.out
    have HO := Lib.hid ho.out
    have HH := Lib.hid hh.out
    have HBr := Lib.hid hb
    have hbs := hb.size
    clear ho hh hb hn
    by_cases hki : k < P.fates.length
    · obtain ⟨b, hbz⟩ : ∃ b, P.fates[k]? = some b := ⟨_, List.getElem?_eq_getElem hki⟩
      obtain ⟨⟨xad, xh⟩, g, o, hx, rfl, hg, hat, hPz⟩ := (HF.out.below foP_steady HBr.out).get hbz
      obtain rfl : xad = b.ad := hPz.1
      obtain ⟨⟨y0, y1, y2, y3, y4, y5⟩, y6, y7, y8, y9, y10⟩ := FK.row11 hat hx
      have HOa := Lib.hid (HOk.out b (List.mem_of_getElem? hbz))
      have HK := Lib.hid (key_ad HOa.out)
      have HX := Lib.hid hbz
      have hal := hPz.2.1
      dsimp only at hal
      rw [hal] at y10
      have HIs := Lib.hid ((HO.out.tidy HLw.out).isMap)
      obtain ⟨o1, ho1⟩ : ∃ o1 : Obj, o1 = .cells #[.int .i8 b.ad.f, .int .u16 b.ad.g0, .int .u16 b.ad.g1, .int .u16 b.ad.g2, .int .u16 b.ad.g3, .int .u16 b.ad.g4, .int .u16 b.ad.g5, .int .u16 b.ad.g6, .int .u16 b.ad.g7, .int .i64 b.ad.p, .slice xh.a b.l.length xh.c] 39 := ⟨_, rfl⟩
      have HOx := Lib.hid (HO.out.alloc o1)
      have HRx := Lib.hid (hPz.2.2.below (below1 wr o1))
      have HLx := Lib.hid (laid1 wr o1)
      rw [ho1] at HOx HRx HLx
      clear hx hat hPz hbz hal ho1
      have HBb := Lib.hid (HBr.out.trans ((below1 wr (.cells #[.int .i8 b.ad.f, .int .u16 b.ad.g0, .int .u16 b.ad.g1, .int .u16 b.ad.g2, .int .u16 b.ad.g3, .int .u16 b.ad.g4, .int .u16 b.ad.g5, .int .u16 b.ad.g6, .int .u16 b.ad.g7, .int .i64 b.ad.p, .slice xh.a b.l.length xh.c] 39)).mono hbs))
      obtain ⟨W1, hW1⟩ : ∃ W1, W1 = wr.alloc (.cells #[.int .i8 b.ad.f, .int .u16 b.ad.g0, .int .u16 b.ad.g1, .int .u16 b.ad.g2, .int .u16 b.ad.g3, .int .u16 b.ad.g4, .int .u16 b.ad.g5, .int .u16 b.ad.g6, .int .u16 b.ad.g7, .int .i64 b.ad.p, .slice xh.a b.l.length xh.c] 39) := ⟨_, rfl⟩
      rw [← hW1] at HOx HRx HLx HBb
      cases hq : Maps.has D (keyA b.ad) with
      | true =>
        have HQ := Lib.hid hq
        clear hW1
        go_wp2_with (first | (at_lookup; refine wpList_look_fate _ rfl _ _ 62 rfl 31 27 HLw.out Try.underlying62 (zero_i8 _) w.heap.size n D rfl (HO.out.alloc _) _ _ rfl HK.out ?_; intro cf hcf) | go_in)
        go_roundw
        case rel => exact ⟨k + 1, n, D, by go_num, by omega, Lib.hid (by have := HN.out; omega), Lib.hid (HO.out.alloc _), Lib.hid (worstTo_old HH.out HX.out HOa.out HQ.out), HBr.out.trans ((below1 wr _).mono hbs)⟩
        case measure => simp [intOf]; omega
      | false =>
        have HQ := Lib.hid hq
        go_upto_region 7 with (first | (at_lookup; refine wpList_look_fate _ rfl _ _ 62 rfl 31 27 HLw.out Try.underlying62 (zero_i8 _) w.heap.size n D rfl (HO.out.alloc _) _ _ rfl HK.out ?_; intro cf hcf) | go_in)
        rw [← hW1]
        have HW1 := Lib.hid hW1
        clear hW1
        obtain ⟨⟨z0, z1, z2, z3, z4⟩, z5, z6, z7, z8, z9⟩ := box11 HLx.out
        have z10 := cell_eleven HLx.out
        have HCw := Lib.hid (fun (W : World) (h : Below W1.heap.size W1 W) => worst_any b.l b.l.length rfl xh.a xh.c W (HRx.out.below h))
        clear y0 y1 y2 y3 y4 y5 y6 y7 y8 y9 y10
        obtain ⟨W2, hrun, hown2, hgr2⟩ := World.ownsMap.update (w := W1.drew) (val := .int .i8 (worstP b.l)) HOx.out HLw.out Try.underlying62 (by have := HN.out; unfold maxLen; omega) HK.out rfl
        have HO2 := Lib.hid hown2
        have HG2 := Lib.hid hgr2
        clear hown2 hgr2
        go_region_law (first | (go_simp; go_at_call 29; with_reducible refine (HCw.out _ (by first | exact Below.refl _ _ | exact (Below.refl _ _).drew | exact (Below.refl _ _).drew.drew)).mono ?_; rintro e w2 ⟨rfl, rfl⟩))
        all_goals
          have HBn := Lib.hid (HBb.out.drew.grown HG2.out HBb.out.size (fun j hj => by cases hj; exact Nat.le_refl _))
          go_wp2_with fail
          go_roundw
          case rel => exact ⟨k + 1, n + 1, _, by go_num, by omega, Lib.hid (by have := HN.out; omega), HO2, Lib.hid (worstTo_new HH.out HIs.out HX.out HOa.out HQ.out), HBn.out⟩
          case measure => simp [intOf]; omega
    · obtain rfl : k = P.fates.length := by omega
      go_wp2_with fail
      go_ret
      exact ⟨D, n, rfl, HO.out, HH.out, HBr.out⟩

set_option maxHeartbeats 8000000 in
set_option maxRecDepth 1000000 in
theorem good_real : GoodSpec := by
  intro P v l a c w r hF hoa hP hR hr
  obtain ⟨za, zc, fa, fc, da, dc⟩ := v
  obtain ⟨_, ⟨fs, hf⟩, _⟩ := hP
  simp only [Pv.val]
  dsimp only at hf
  have hlen : (l.length : Int) ≤ 9223372036854775807 := len_int _ (Nat.le_trans hR.1 hR.2.1)
  obtain ⟨o1, ho1⟩ : ∃ o1 : Obj, o1 = .cells #[.slice za P.zones.length zc, .slice fa P.fates.length fc, .int .i64 P.ticks, .slice da P.drops.length dc] 26 := ⟨_, rfl⟩
  have HB := Lib.hid (below1 w o1)
  have HL := Lib.hid (laid1 w o1)
  have HR := Lib.hid (hR.below (below1 w o1))
  have HWs := Lib.hid (worsts_any P fs fa fc (w.alloc o1) (hf.below foP_steady (below1 w o1)) hF.2)
  have HOa := Lib.hid hoa
  have HRr := Lib.hid hr
  rw [ho1] at HB HL HR HWs
  clear ho1 hf hR hF hoa hr
  obtain ⟨W1, hW1⟩ : ∃ W1, W1 = w.alloc (.cells #[.slice za P.zones.length zc, .slice fa P.fates.length fc, .int .i64 P.ticks, .slice da P.drops.length dc] 26) := ⟨_, rfl⟩
  rw [← hW1] at HB HL HR HWs
  go_enter Try.func11, Try.ntmps11
  go_upto_region 1 with fail
  rw [← hW1]
  clear hW1
  obtain ⟨⟨x0, x1, x2, x3⟩, _⟩ := box4 HL.out
  obtain ⟨MB, hMB⟩ : ∃ MB, MB = W1.heap.size := ⟨_, rfl⟩
  rw [← hMB] at HWs
  have HMB := Lib.hid hMB
  clear hMB
  go_wp2_with fail
  with_reducible refine HWs.out.mono ?_
  rintro e w2 ⟨D, n, rfl, ho, hw, hb⟩
  have HO := Lib.hid ho
  have HW := Lib.hid hw
  have HB2 := Lib.hid (show Below W1.heap.size W1 w2 by rw [← HMB.out]; exact hb)
  have HLw := Lib.hid law_ad
  clear ho hw hb x0 x1 x2 x3 HWs
  go_wp2_with fail
  go_loopw [15] (fun i wr => ∃ k : Nat, i = .int .i64 k ∧ k ≤ l.length ∧ Hid (NoneTo (fun x => !goodOne P x) l k) ∧ Below w2.heap.size w2 wr) (fun i _ => l.length - (intOf i).toNat)
  case atStart => exact ⟨0, rfl, by omega, Lib.hid (noneTo_zero _ _), Below.refl _ _⟩
  case round =>
    obtain ⟨k, rfl, hk, hno, hb⟩ := hrel
    have HN := Lib.hid hno.out
    have HBr := Lib.hid hb
    have hbs := hb.size
    have HBa := Lib.hid (HB.out.trans ((HB2.out.trans (hb.mono HB2.out.size)).mono HB.out.size))
    clear hno hb
    by_cases hki : k < l.length
    · obtain ⟨y, hy⟩ : ∃ y, l[k]? = some y := ⟨_, List.getElem?_eq_getElem hki⟩
      obtain ⟨b, o, rfl, hbl, hat⟩ := HR.out.2.2.2 (by omega)
      obtain ⟨⟨y0, y1, y2, y3, y4⟩, y5, y6, y7, y8, y9⟩ := AK.ten (hat.below (HB2.out.trans (HBr.out.mono HB2.out.size)) hbl) hy
      have HX := Lib.hid hy
      have HYo := Lib.hid (HOa.out y (List.mem_of_getElem? hy))
      have HK := Lib.hid (key_ad HYo.out)
      have HKw := Lib.hid (HW.out y HYo.out)
      rw [rowTo_all] at HKw
      have hsz2 := HO.out.lt
      have HOr := Lib.hid (map_below HO.out HBr.out)
      clear hy hat
      cases hro : rowOf P y with
      | none =>
        rw [hro] at HKw
        have hhas : Maps.has D (keyA y) = false := HKw.out
        have HG := Lib.hid (show goodOne P y = false by unfold goodOne; rw [hro])
        clear hro HKw
        go_wp2_with (first | (at_lookup; refine wpList_look_fate _ rfl _ _ 62 rfl 31 27 HLw.out Try.underlying62 (zero_i8 _) MB n D rfl (HOr.out.alloc _) _ _ rfl HK.out ?_; intro cf hcf) | go_in)
        go_ret
        exact ⟨by rw [HRr.out]; unfold goodP; rw [all_false HX.out HG.out]; rfl, HBa.out.trans ((below1 wr _).mono HBa.out.size)⟩
      | some f =>
        rw [hro] at HKw
        have hhas : Maps.has D (keyA y) = true := HKw.out.1
        have HAt := Lib.hid (HKw.out.2 (.lit (.int .i8 0)))
        have HG := Lib.hid (show goodOne P y = decide (worstP f.l = 0) by unfold goodOne; rw [hro, worst_good])
        clear hro HKw
        by_cases hq : worstP f.l = 0
        · have HG1 := Lib.hid (show goodOne P y = true by rw [HG.out]; exact decide_eq_true hq)
          have HQ := Lib.hid hq
          clear hq
          go_wp2_with (first | (at_lookup; refine wpList_look_fate _ rfl _ _ 62 rfl 31 27 HLw.out Try.underlying62 (zero_i8 _) MB n D rfl (HOr.out.alloc _) _ _ rfl HK.out ?_; intro cf hcf; obtain rfl : cf = 0 := by have h := HAt.out.symm.trans hcf; rw [HQ.out] at h; injection h with h; injection h with h1 h2; exact h2.symm) | go_in)
          go_roundw
          case rel => exact ⟨k + 1, by go_num, by omega, Lib.hid (noneTo_step HN.out HX.out (by rw [HG1.out]; rfl)), HBr.out.trans ((below1 wr _).mono hbs)⟩
          case measure => simp [intOf]; omega
        · have HG1 := Lib.hid (show goodOne P y = false by rw [HG.out]; exact decide_eq_false hq)
          have hqb : (worstP f.l == 0) = false := by simpa using hq
          have HQ := Lib.hid hq
          clear hq
          go_wp2_with (first | (at_lookup; refine wpList_look_fate _ rfl _ _ 62 rfl 31 27 HLw.out Try.underlying62 (zero_i8 _) MB n D rfl (HOr.out.alloc _) _ _ rfl HK.out ?_; intro cf hcf; obtain rfl : cf = worstP f.l := by have h := HAt.out.symm.trans hcf; injection h with h; injection h with h1 h2; exact h2.symm) | go_in)
          go_ret
          exact ⟨by rw [HRr.out]; unfold goodP; rw [all_false HX.out HG1.out]; rfl, HBa.out.trans ((below1 wr _).mono HBa.out.size)⟩
    · obtain rfl : k = l.length := by omega
      go_wp2_with fail
      go_ret
      exact ⟨by rw [HRr.out]; unfold goodP; rw [all_true HN.out]; rfl, HBa.out⟩
end Go.Proofs.Ytlceeeajhejedaa
