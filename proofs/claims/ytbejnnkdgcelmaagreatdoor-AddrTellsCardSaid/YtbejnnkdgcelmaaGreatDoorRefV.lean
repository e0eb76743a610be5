/- The document's own sorting. -/
import Derived.Test.YtbejnnkdgcelmaaGreatDoorRefU
import Derived.Laws.AppendOwnNone
set_option linter.unusedSimpArgs false
set_option linter.unusedVariables false
namespace Go.Proofs.YtbejnnkdgcelmaaGreatDoor
open Go.RowKit

theorem add_at (g a j : Nat) : ((⟨g, a, none⟩ : Addr).add j) = ⟨g, a + j, none⟩ := by
  unfold Addr.add
  split
  · rename_i h; have : j = 0 := by simpa using h
    subst this; rfl
  · rfl
theorem ads_one' (l : List Ad) : ∀ u ∈ P.ads l, u.oneCell' = true := by
  intro u hu
  obtain ⟨x, _, hx⟩ := List.mem_flatMap.1 hu
  exact x.enc_one u hx

set_option maxHeartbeats 8000000 in
set_option maxRecDepth 1000000 in
theorem refSorted_any (l : List Ad) (a : Option Addr) (c : Nat) (w : World) (hl : l.length ≤ 100) (hA : RowAt w a l) :
    Calls Tryz.prog 17 #[.slice a l.length c] w fun e w' => ∃ v, e = .returned v ∧ w'.ownsRow w.heap.size 26 10 v l.length (P.ads (sortP l)) ∧ Below w.heap.size w w' := by
  obtain ⟨i0, hi, hz0, hz1, hz2⟩ := info_parts iAd
  have HA := Lib.hid hA
  have HLs := Lib.hid refLess_any
  simp only [Ad.v, Ad.enc] at HLs
  clear hA
  go_enter Tryz.func17, Tryz.ntmps17
  go_wp2_with fail
  go_loopw [3, 4] (fun u3 u4 wr => ∃ (i : Nat) (R : List Ad), u4 = .int .i64 i ∧ i ≤ l.length ∧ R.length = i ∧ Below w.heap.size w wr ∧ wr.ownsRow w.heap.size 26 10 u3 i (P.ads R) ∧ Hid (i = 0 → u3 = .slice none 0 0) ∧ Hid (insAll (l.take i) = R)) (fun _ u4 _ => l.length - (intOf u4).toNat)
  case atStart => exact ⟨0, [], rfl, by omega, rfl, Below.refl _ _, World.ownsRow_nil _ _ _ _, Lib.hid (fun _ => rfl), Lib.hid rfl⟩
  case round =>
    obtain ⟨i, R, rfl, hil, hRl, hbw, hown, hnil, hR⟩ := hrel
    rename World => V
    have HRl := Lib.hid hRl
    clear hRl
    have hbs := hbw.size
    by_cases hlt : i < l.length
    · obtain ⟨b, o, rfl, hb, hat⟩ := (HA.out.below hbw) (by omega)
      obtain ⟨x, hx⟩ : ∃ x, l[i]? = some x := ⟨_, List.getElem?_eq_getElem hlt⟩
      have HT := Lib.hid (insAll_take l i x hx)
      have HAt := Lib.hid (fun W (h : Below V.heap.size V W) => (hat.below h hb).cells i x hx)
      clear hat hx
      by_cases h0 : i = 0
      · subst h0
        have hu := hnil.out rfl
        obtain rfl : R = [] := List.length_eq_zero_iff.1 HRl.out
        subst hu
        have HF := Lib.hid (show insAll (l.take (0 + 1)) = [x] by rw [HT.out, hR.out]; rfl)
        have hlp : (0 : Int) < (l.length : Int) := by omega
        rw [show ((0 : Nat) : Int) = 0 from rfl]
        clear hnil hown
        go_wp2_with fail
        go_loopw [5] (fun u5 wr => u5 = .int .i64 0 ∧ Hid (Below V.heap.size V wr)) (fun _ _ => 0)
        case atStart => exact ⟨rfl, Lib.hid (Below.refl _ _)⟩
        case round =>
          obtain ⟨rfl, hbk⟩ := hrel
          go_wp2_with fail
          go_quiet (fail)
          go_upto_region 9 with fail
          rename Nat => nq
          have HBW := Lib.hid (below_drewN hbk.out nq)
          generalize wr.drewN nq = W2 at *
          have hVW := HBW.out.size
          go_upto_region 10 with (at_builtin; refine wpList_append_own_none rfl _ _ 27 rfl W2.heap.size 26 i0 10 Tryz.underlying27 hi (.slice none 0 0) 0 [] rfl (World.ownsRow_nil _ _ _ _) rfl ?_)
          have hcx := HAt.out W2 HBW.out
          simp only [Nat.zero_mul, Nat.add_zero] at hcx
          obtain ⟨c0, c1, c2, c3, c4, c5, c6, c7, c8, c9⟩ := hcx
          have HN := Lib.hid (cells_new W2 26 x.enc #[.int .i8 x.f, .int .u16 x.g0, .int .u16 x.g1, .int .u16 x.g2, .int .u16 x.g3, .int .u16 x.g4, .int .u16 x.g5, .int .u16 x.g6, .int .u16 x.g7, .int .i64 x.p] rfl)
          go_upto_region 11 with (at_builtin; refine wpList_append_own _ rfl _ _ 27 rfl W2.heap.size 26 i0 Ad.zero.v 10 32 Tryz.underlying27 hi hz0 hz1 hz2 rfl (by decide) _ 0 [] rfl (World.ownsRow_nil _ _ _ _) ⟨W2.heap.size, 0, none⟩ 1 1 x.enc rfl rfl HN.out x.enc_one (by unfold maxLen; omega) (by omega) (by simp) ?_; intro v2 w5 hown2 hgrow2 _)
          have HB5 := Lib.hid (((Below.refl W2.heap.size W2).alloc (Nat.le_refl _) _).grown hgrow2 (by simp) (fun kk hkk => ((World.ownsRow_nil _ _ _ _ : W2.ownsRow W2.heap.size 26 10 (.slice none 0 0) 0 []).lt kk hkk).1))
          have HO2 := Lib.hid hown2
          clear hown2 hgrow2 c0 c1 c2 c3 c4 c5 c6 c7 c8 c9 HN
          go_wp2_with (at_builtin; refine wpList_append_own_none rfl _ _ 27 rfl W2.heap.size 26 i0 10 Tryz.underlying27 hi v2 (0 + 1) ([] ++ x.enc) rfl HO2.out rfl ?_)
          go_roundw
          case rel => exact ⟨1, [x], rfl, by omega, rfl, hbw.trans ((HBW.out.trans (HB5.out.mono hVW)).mono hbs), by
            have h := HO2.out.mono (show w.heap.size ≤ W2.heap.size by omega)
            rw [P.ads_one]
            exact h, Lib.hid (fun h => by omega), HF⟩
          case measure => simp [intOf]; omega
      · obtain ⟨g, cap, rfl, hg, hgs, hcap, _⟩ := row_cell hown (by omega)
        have HO := Lib.hid hown
        have HRow := Lib.hid (show RowAt V (some ⟨g, 0, none⟩) R by
          obtain ⟨a', c', he, hra, _⟩ := own_row (by rw [HRl.out]; exact hown)
          injection he with h1 h2 h3
          rw [h1]; exact hra)
        clear hown hnil
        go_wp2_with fail
        go_loopw [5] (fun u5 wr => ∃ k : Nat, u5 = .int .i64 k ∧ k ≤ i ∧ Below V.heap.size V wr ∧ Hid (insP x R = R.take k ++ insP x (R.drop k))) (fun u5 _ => i - (intOf u5).toNat)
        case atStart => exact ⟨0, rfl, by omega, Below.refl _ _, Lib.hid (by simp)⟩
        case round =>
          obtain ⟨k, rfl, hk, hbk, hI⟩ := hrel
          have HBk := Lib.hid hbk
          have hbks := hbk.size
          by_cases hki : k < i
          · obtain ⟨y, hy⟩ : ∃ y, R[k]? = some y := ⟨_, List.getElem?_eq_getElem (by rw [HRl.out]; exact hki)⟩
            have HK := Lib.hid (show ∀ W, Below wr.heap.size wr W → (W.cell? ⟨b, o + i * 10, none⟩ = some (.int .i8 x.f) ∧ W.cell? ⟨b, o + i * 10 + 1, none⟩ = some (.int .u16 x.g0) ∧ W.cell? ⟨b, o + i * 10 + 2, none⟩ = some (.int .u16 x.g1) ∧ W.cell? ⟨b, o + i * 10 + 3, none⟩ = some (.int .u16 x.g2) ∧ W.cell? ⟨b, o + i * 10 + 4, none⟩ = some (.int .u16 x.g3) ∧ W.cell? ⟨b, o + i * 10 + 5, none⟩ = some (.int .u16 x.g4) ∧ W.cell? ⟨b, o + i * 10 + 6, none⟩ = some (.int .u16 x.g5) ∧ W.cell? ⟨b, o + i * 10 + 7, none⟩ = some (.int .u16 x.g6) ∧ W.cell? ⟨b, o + i * 10 + 8, none⟩ = some (.int .u16 x.g7) ∧ W.cell? ⟨b, o + i * 10 + 9, none⟩ = some (.int .i64 x.p)) ∧ (W.cell? ⟨g, k * 10, none⟩ = some (.int .i8 y.f) ∧ W.cell? ⟨g, k * 10 + 1, none⟩ = some (.int .u16 y.g0) ∧ W.cell? ⟨g, k * 10 + 2, none⟩ = some (.int .u16 y.g1) ∧ W.cell? ⟨g, k * 10 + 3, none⟩ = some (.int .u16 y.g2) ∧ W.cell? ⟨g, k * 10 + 4, none⟩ = some (.int .u16 y.g3) ∧ W.cell? ⟨g, k * 10 + 5, none⟩ = some (.int .u16 y.g4) ∧ W.cell? ⟨g, k * 10 + 6, none⟩ = some (.int .u16 y.g5) ∧ W.cell? ⟨g, k * 10 + 7, none⟩ = some (.int .u16 y.g6) ∧ W.cell? ⟨g, k * 10 + 8, none⟩ = some (.int .u16 y.g7) ∧ W.cell? ⟨g, k * 10 + 9, none⟩ = some (.int .i64 y.p)) from fun W h => ⟨HAt.out W (hbk.trans (h.mono hbks)), by
              obtain ⟨g', o', he, hg', hat'⟩ := (HRow.out.below (hbk.trans (h.mono hbks))) (by rw [HRl.out]; omega)
              injection he with he
              injection he with h1 h2 h3
              subst h1 h2
              have := hat'.cells k y hy
              simpa only [Nat.zero_add] using this⟩)
            have hS1 := HK.out _ (Below.refl wr.heap.size wr)
            have HL1 := Lib.hid (HLs.out x y)
            obtain ⟨q, hq⟩ : ∃ q, lessP x y = q := ⟨_, rfl⟩
            rw [hq] at HL1
            have HQ := Lib.hid (And.intro hy hq)
            have hW1 := Lib.hid ((Below.refl wr.heap.size wr).drew)
            clear hy hq hbk
            cases q with
            | false =>
              have HI2 := Lib.hid (insP_no x y R k HQ.out.1 HQ.out.2 hI.out)
              go_wp2_with fail
              go_region_held3 (fun w' => (w'.cell? ⟨b, o + i * 10, none⟩ = some (.int .i8 x.f) ∧ w'.cell? ⟨b, o + i * 10 + 1, none⟩ = some (.int .u16 x.g0) ∧ w'.cell? ⟨b, o + i * 10 + 2, none⟩ = some (.int .u16 x.g1) ∧ w'.cell? ⟨b, o + i * 10 + 3, none⟩ = some (.int .u16 x.g2) ∧ w'.cell? ⟨b, o + i * 10 + 4, none⟩ = some (.int .u16 x.g3) ∧ w'.cell? ⟨b, o + i * 10 + 5, none⟩ = some (.int .u16 x.g4) ∧ w'.cell? ⟨b, o + i * 10 + 6, none⟩ = some (.int .u16 x.g5) ∧ w'.cell? ⟨b, o + i * 10 + 7, none⟩ = some (.int .u16 x.g6) ∧ w'.cell? ⟨b, o + i * 10 + 8, none⟩ = some (.int .u16 x.g7) ∧ w'.cell? ⟨b, o + i * 10 + 9, none⟩ = some (.int .i64 x.p)) ∧ (w'.cell? ⟨g, k * 10, none⟩ = some (.int .i8 y.f) ∧ w'.cell? ⟨g, k * 10 + 1, none⟩ = some (.int .u16 y.g0) ∧ w'.cell? ⟨g, k * 10 + 2, none⟩ = some (.int .u16 y.g1) ∧ w'.cell? ⟨g, k * 10 + 3, none⟩ = some (.int .u16 y.g2) ∧ w'.cell? ⟨g, k * 10 + 4, none⟩ = some (.int .u16 y.g3) ∧ w'.cell? ⟨g, k * 10 + 5, none⟩ = some (.int .u16 y.g4) ∧ w'.cell? ⟨g, k * 10 + 6, none⟩ = some (.int .u16 y.g5) ∧ w'.cell? ⟨g, k * 10 + 7, none⟩ = some (.int .u16 y.g6) ∧ w'.cell? ⟨g, k * 10 + 8, none⟩ = some (.int .u16 y.g7) ∧ w'.cell? ⟨g, k * 10 + 9, none⟩ = some (.int .i64 y.p))) (first | assumption | go_keep) (first
                | (go_at_call 14; with_reducible refine (HL1.out _).mono ?_; rintro e w2 ⟨rfl, hb2⟩; have hW2 := Lib.hid (hW1.out.trans (hb2.mono hW1.out.size)); have hS2 := HK.out _ hW2.out))
              go_wp2_with fail
              go_roundw
              case rel => exact ⟨k + 1, by go_num, by omega, HBk.out.trans (hW2.out.mono hbks), HI2⟩
              case measure => simp [intOf]; omega
            | true =>
              have HI2 := Lib.hid (insP_yes x y R k HQ.out.1 HQ.out.2 hI.out)
              go_wp2_with fail
              go_region_held3 (fun w' => (w'.cell? ⟨b, o + i * 10, none⟩ = some (.int .i8 x.f) ∧ w'.cell? ⟨b, o + i * 10 + 1, none⟩ = some (.int .u16 x.g0) ∧ w'.cell? ⟨b, o + i * 10 + 2, none⟩ = some (.int .u16 x.g1) ∧ w'.cell? ⟨b, o + i * 10 + 3, none⟩ = some (.int .u16 x.g2) ∧ w'.cell? ⟨b, o + i * 10 + 4, none⟩ = some (.int .u16 x.g3) ∧ w'.cell? ⟨b, o + i * 10 + 5, none⟩ = some (.int .u16 x.g4) ∧ w'.cell? ⟨b, o + i * 10 + 6, none⟩ = some (.int .u16 x.g5) ∧ w'.cell? ⟨b, o + i * 10 + 7, none⟩ = some (.int .u16 x.g6) ∧ w'.cell? ⟨b, o + i * 10 + 8, none⟩ = some (.int .u16 x.g7) ∧ w'.cell? ⟨b, o + i * 10 + 9, none⟩ = some (.int .i64 x.p)) ∧ (w'.cell? ⟨g, k * 10, none⟩ = some (.int .i8 y.f) ∧ w'.cell? ⟨g, k * 10 + 1, none⟩ = some (.int .u16 y.g0) ∧ w'.cell? ⟨g, k * 10 + 2, none⟩ = some (.int .u16 y.g1) ∧ w'.cell? ⟨g, k * 10 + 3, none⟩ = some (.int .u16 y.g2) ∧ w'.cell? ⟨g, k * 10 + 4, none⟩ = some (.int .u16 y.g3) ∧ w'.cell? ⟨g, k * 10 + 5, none⟩ = some (.int .u16 y.g4) ∧ w'.cell? ⟨g, k * 10 + 6, none⟩ = some (.int .u16 y.g5) ∧ w'.cell? ⟨g, k * 10 + 7, none⟩ = some (.int .u16 y.g6) ∧ w'.cell? ⟨g, k * 10 + 8, none⟩ = some (.int .u16 y.g7) ∧ w'.cell? ⟨g, k * 10 + 9, none⟩ = some (.int .i64 y.p))) (first | assumption | go_keep) (first
                | (go_at_call 14; with_reducible refine (HL1.out _).mono ?_; rintro e w2 ⟨rfl, hb2⟩; have hW2 := Lib.hid (hW1.out.trans (hb2.mono hW1.out.size)); have hS2 := HK.out _ hW2.out))
              go_upto_region 9 with fail
              have HBW := Lib.hid (HBk.out.trans (hW2.out.mono hbks))
              have hVW := HBW.out.size
              have HOW := Lib.hid (own_below' HO.out HBW.out)
              have hC0 : ∀ (j : Nat) (u : Value), (P.ads R)[j]? = some u → w2.cell? ((⟨g, 0, none⟩ : Addr).add j) = some u := fun j u hu => HOW.out.cells rfl j u hu
              have HC0 := Lib.hid hC0
              have hRi := HRl.out
              have HLN1 := Lib.hid (show (P.ads (R.take k)).length = k * 10 by rw [P.ads_length, List.length_take, Nat.min_eq_left (by omega)])
              have HLN3 := Lib.hid (show (P.ads (R.drop k)).length = (i - k) * 10 by rw [P.ads_length, List.length_drop, HRl.out])
              have HSp := Lib.hid (show P.ads R = P.ads (R.take k) ++ P.ads (R.drop k) by rw [← P.ads_append, List.take_append_drop])
              clear hC0 hRi
              have HC1 : Hid (∀ (j : Nat) (u : Value), (P.ads (R.take k))[j]? = some u → w2.cell? ((⟨g, 0, none⟩ : Addr).add j) = some u) := Lib.hid (fun j u hu => HC0.out j u (by rw [HSp.out, List.getElem?_append_left (List.getElem?_eq_some_iff.1 hu).1]; exact hu))
              have HC3 : Hid (∀ (j : Nat) (u : Value), (P.ads (R.drop k))[j]? = some u → w2.cell? ((⟨g, k * 10, none⟩ : Addr).add j) = some u) := Lib.hid (fun j u hu => by
                have h := HC0.out (k * 10 + j) u (by rw [HSp.out, List.getElem?_append_right (by rw [HLN1.out]; omega), HLN1.out, show k * 10 + j - k * 10 = j by omega]; exact hu)
                rw [add_at] at h ⊢
                simpa using h)
              clear HC0
              go_upto_region 10 with (at_builtin; refine wpList_append_own _ rfl _ _ 27 rfl w2.heap.size 26 i0 Ad.zero.v 10 32 Tryz.underlying27 hi hz0 hz1 hz2 rfl (by decide) _ 0 [] rfl (World.ownsRow_nil _ _ _ _) ⟨g, 0, none⟩ k cap (P.ads (R.take k)) rfl HLN1.out HC1.out (ads_one' _) (by unfold maxLen; omega) (by omega) (Nat.le_refl _) ?_; intro v1 w4 hown1 hgrow1 _)
              have HB4 := Lib.hid ((Below.refl w2.heap.size w2).grown hgrow1 (Nat.le_refl _) (fun k hk => ((World.ownsRow_nil _ _ _ _ : w2.ownsRow w2.heap.size 26 10 (.slice none 0 0) 0 []).lt k hk).1))
              have hs4 := HB4.out.size
              have HO1 := Lib.hid hown1
              obtain ⟨c0, c1, c2, c3, c4, c5, c6, c7, c8, c9⟩ := HAt.out w4 (HBW.out.trans (HB4.out.mono hVW))
              clear hown1 hgrow1
              have HN := Lib.hid (cells_new w4 26 x.enc #[.int .i8 x.f, .int .u16 x.g0, .int .u16 x.g1, .int .u16 x.g2, .int .u16 x.g3, .int .u16 x.g4, .int .u16 x.g5, .int .u16 x.g6, .int .u16 x.g7, .int .i64 x.p] rfl)
              go_upto_region 11 with (at_builtin; refine wpList_append_own _ rfl _ _ 27 rfl w2.heap.size 26 i0 Ad.zero.v 10 32 Tryz.underlying27 hi hz0 hz1 hz2 rfl (by decide) _ _ _ rfl (HO1.out.alloc _) ⟨w4.heap.size, 0, none⟩ 1 1 x.enc rfl rfl HN.out x.enc_one (by unfold maxLen; omega) (by omega) (by simp; omega) ?_; intro v2 w5 hown2 hgrow2 _)
              have HB5 := Lib.hid ((HB4.out.alloc hs4 _).grown hgrow2 (by simp; omega) (fun k hk => (HO1.out.lt k hk).1))
              have hs5 := HB5.out.size
              have HO2 := Lib.hid hown2
              clear hown2 hgrow2 c0 c1 c2 c3 c4 c5 c6 c7 c8 c9 HN
              have HC5 : Hid (∀ (j : Nat) (u : Value), (P.ads (R.drop k))[j]? = some u → w5.cell? ((⟨g, k * 10, none⟩ : Addr).add j) = some u) := Lib.hid (fun j u hu => (by have h := HC3.out j u hu; rw [add_at] at h ⊢; exact (HB5.out.cell (p := ⟨g, k * 10 + j, none⟩) (by show g < _; omega)).trans h))
              have hkc1 : (((k : Nat) : Int) == (cap : Int)) = false := by simp; omega
              have hkc2 : ¬ k = cap := by omega
              have hkc4 : (k : Int) < (cap : Int) := by omega
              have hki2 : (k : Int) ≤ (i : Int) := by omega
              have hic : (i : Int) ≤ (cap : Int) := by omega
              have HN3 := Lib.hid (show 0 + k + 1 + (i - k) = i + 1 by omega)
              have HE3 := Lib.hid (show [] ++ P.ads (R.take k) ++ x.enc ++ P.ads (R.drop k) = P.ads (insP x R) by
                rw [HI2.out, P.ads_append, show x :: R.drop k = [x] ++ R.drop k from rfl, P.ads_append, P.ads_one]; simp)
              have HF := Lib.hid (show insAll (l.take (i + 1)) = insP x R by rw [HT.out, hR.out])
              have HLf := Lib.hid (show (insP x R).length = i + 1 by rw [(insP_perm x R).length_eq, List.length_cons, HRl.out])
              go_wp2_with (at_builtin; refine wpList_append_own _ rfl _ _ 27 rfl w2.heap.size 26 i0 Ad.zero.v 10 32 Tryz.underlying27 hi hz0 hz1 hz2 rfl (by decide) _ _ _ rfl HO2.out ⟨g, k * 10, none⟩ (i - k) (cap - k) (P.ads (R.drop k)) rfl HLN3.out HC5.out (ads_one' _) (by unfold maxLen; omega) (by omega) (by omega) ?_; intro v3 w6 hown3 hgrow3 _)
              go_roundw
              case rel => exact ⟨i + 1, insP x R, by go_num, by omega, HLf.out, hbw.trans ((HBW.out.trans ((HB5.out.grown hgrow3 hs5 (fun k hk => (HO2.out.lt k hk).1)).mono hVW)).mono hbs), by
                have h := hown3.mono (show w.heap.size ≤ w2.heap.size by omega)
                rw [HN3.out, HE3.out] at h
                exact h, Lib.hid (fun h => by omega), HF⟩
              case measure => simp [intOf]; omega
          · obtain rfl : i = k := by omega
            have HI2 := Lib.hid (show insP x R = R.take i ++ x :: R.drop i by
              have h := insP_all x R (by rw [HRl.out]; exact hI.out)
              rwa [HRl.out] at h)
            have hgd : decide ((i : Int) < (i : Int)) = false := by simp
            clear hI hbk
            go_wp2_with fail
            go_quiet (fail)
            go_upto_region 9 with fail
            rename Nat => nq
            have HBq := below_drewN HBk.out nq
            generalize wr.drewN nq = W2 at *
            have HBW := Lib.hid (HBq)
            have hVW := HBW.out.size
            have HOW := Lib.hid (own_below' HO.out HBW.out)
            have hC0 : ∀ (j : Nat) (u : Value), (P.ads R)[j]? = some u → W2.cell? ((⟨g, 0, none⟩ : Addr).add j) = some u := fun j u hu => HOW.out.cells rfl j u hu
            have HC0 := Lib.hid hC0
            have hRi := HRl.out
            have HLN1 := Lib.hid (show (P.ads (R.take i)).length = i * 10 by rw [P.ads_length, List.length_take, Nat.min_eq_left (by omega)])
            have HLN3 := Lib.hid (show (P.ads (R.drop i)).length = (i - i) * 10 by rw [P.ads_length, List.length_drop, HRl.out])
            have HSp := Lib.hid (show P.ads R = P.ads (R.take i) ++ P.ads (R.drop i) by rw [← P.ads_append, List.take_append_drop])
            clear hC0 hRi
            have HC1 : Hid (∀ (j : Nat) (u : Value), (P.ads (R.take i))[j]? = some u → W2.cell? ((⟨g, 0, none⟩ : Addr).add j) = some u) := Lib.hid (fun j u hu => HC0.out j u (by rw [HSp.out, List.getElem?_append_left (List.getElem?_eq_some_iff.1 hu).1]; exact hu))
            have HC3 : Hid (∀ (j : Nat) (u : Value), (P.ads (R.drop i))[j]? = some u → W2.cell? ((⟨g, i * 10, none⟩ : Addr).add j) = some u) := Lib.hid (fun j u hu => by
              have h := HC0.out (i * 10 + j) u (by rw [HSp.out, List.getElem?_append_right (by rw [HLN1.out]; omega), HLN1.out, show i * 10 + j - i * 10 = j by omega]; exact hu)
              rw [add_at] at h ⊢
              simpa using h)
            clear HC0
            go_upto_region 10 with (at_builtin; refine wpList_append_own _ rfl _ _ 27 rfl W2.heap.size 26 i0 Ad.zero.v 10 32 Tryz.underlying27 hi hz0 hz1 hz2 rfl (by decide) _ 0 [] rfl (World.ownsRow_nil _ _ _ _) ⟨g, 0, none⟩ i cap (P.ads (R.take i)) rfl HLN1.out HC1.out (ads_one' _) (by unfold maxLen; omega) (by omega) (Nat.le_refl _) ?_; intro v1 w4 hown1 hgrow1 _)
            have HB4 := Lib.hid ((Below.refl W2.heap.size W2).grown hgrow1 (Nat.le_refl _) (fun i hk => ((World.ownsRow_nil _ _ _ _ : W2.ownsRow W2.heap.size 26 10 (.slice none 0 0) 0 []).lt i hk).1))
            have hs4 := HB4.out.size
            have HO1 := Lib.hid hown1
            obtain ⟨c0, c1, c2, c3, c4, c5, c6, c7, c8, c9⟩ := HAt.out w4 (HBW.out.trans (HB4.out.mono hVW))
            clear hown1 hgrow1
            have HN := Lib.hid (cells_new w4 26 x.enc #[.int .i8 x.f, .int .u16 x.g0, .int .u16 x.g1, .int .u16 x.g2, .int .u16 x.g3, .int .u16 x.g4, .int .u16 x.g5, .int .u16 x.g6, .int .u16 x.g7, .int .i64 x.p] rfl)
            go_upto_region 11 with (at_builtin; refine wpList_append_own _ rfl _ _ 27 rfl W2.heap.size 26 i0 Ad.zero.v 10 32 Tryz.underlying27 hi hz0 hz1 hz2 rfl (by decide) _ _ _ rfl (HO1.out.alloc _) ⟨w4.heap.size, 0, none⟩ 1 1 x.enc rfl rfl HN.out x.enc_one (by unfold maxLen; omega) (by omega) (by simp; omega) ?_; intro v2 w5 hown2 hgroW2 _)
            have HB5 := Lib.hid ((HB4.out.alloc hs4 _).grown hgroW2 (by simp; omega) (fun i hk => (HO1.out.lt i hk).1))
            have hs5 := HB5.out.size
            have HO2 := Lib.hid hown2
            clear hown2 hgroW2 c0 c1 c2 c3 c4 c5 c6 c7 c8 c9 HN
            have HC5 : Hid (∀ (j : Nat) (u : Value), (P.ads (R.drop i))[j]? = some u → w5.cell? ((⟨g, i * 10, none⟩ : Addr).add j) = some u) := Lib.hid (fun j u hu => (by have h := HC3.out j u hu; rw [add_at] at h ⊢; exact (HB5.out.cell (p := ⟨g, i * 10 + j, none⟩) (by show g < _; omega)).trans h))
            by_cases hcc : cap = i
            · obtain rfl : i = cap := hcc.symm
              have HN3 := Lib.hid (show 0 + i + 1 + 0 = i + 1 by omega)
              have HE3 := Lib.hid (show [] ++ P.ads (R.take i) ++ x.enc ++ P.ads (R.drop i) = P.ads (insP x R) by
                rw [HI2.out, P.ads_append, show x :: R.drop i = [x] ++ R.drop i from rfl, P.ads_append, P.ads_one]; simp)
              have HF := Lib.hid (show insAll (l.take (i + 1)) = insP x R by rw [HT.out, hR.out])
              have HLf := Lib.hid (show (insP x R).length = i + 1 by rw [(insP_perm x R).length_eq, List.length_cons, HRl.out])
              go_wp2_with (at_builtin; refine wpList_append_own _ rfl _ _ 27 rfl W2.heap.size 26 i0 Ad.zero.v 10 32 Tryz.underlying27 hi hz0 hz1 hz2 rfl (by decide) _ _ _ rfl HO2.out ⟨g, 0, none⟩ 0 0 (P.ads (R.drop i)) rfl (by rw [HLN3.out]; simp) (by intro j u hu; have := (List.getElem?_eq_some_iff.1 hu).1; rw [HLN3.out] at this; omega) (ads_one' _) (by unfold maxLen; omega) (by omega) (by omega) ?_; intro v3 w6 hown3 hgrow3 _)
              go_roundw
              case rel => exact ⟨i + 1, insP x R, by go_num, by omega, HLf.out, hbw.trans ((HBW.out.trans ((HB5.out.grown hgrow3 hs5 (fun i hk => (HO2.out.lt i hk).1)).mono hVW)).mono hbs), by
                have h := hown3.mono (show w.heap.size ≤ W2.heap.size by omega)
                rw [HN3.out, HE3.out] at h
                exact h, Lib.hid (fun h => by omega), HF⟩
              case measure => simp [intOf]; omega
            · have hkc2 : ¬ i = cap := fun e => hcc e.symm
              have hkc4 : (i : Int) < (cap : Int) := by omega
              clear hcc
              have HN3 := Lib.hid (show 0 + i + 1 + 0 = i + 1 by omega)
              have HE3 := Lib.hid (show [] ++ P.ads (R.take i) ++ x.enc ++ P.ads (R.drop i) = P.ads (insP x R) by
                rw [HI2.out, P.ads_append, show x :: R.drop i = [x] ++ R.drop i from rfl, P.ads_append, P.ads_one]; simp)
              have HF := Lib.hid (show insAll (l.take (i + 1)) = insP x R by rw [HT.out, hR.out])
              have HLf := Lib.hid (show (insP x R).length = i + 1 by rw [(insP_perm x R).length_eq, List.length_cons, HRl.out])
              go_wp2_with (at_builtin; refine wpList_append_own _ rfl _ _ 27 rfl W2.heap.size 26 i0 Ad.zero.v 10 32 Tryz.underlying27 hi hz0 hz1 hz2 rfl (by decide) _ _ _ rfl HO2.out ⟨g, i * 10, none⟩ 0 (cap - i) (P.ads (R.drop i)) rfl (by rw [HLN3.out]; simp) (by intro j u hu; have := (List.getElem?_eq_some_iff.1 hu).1; rw [HLN3.out] at this; omega) (ads_one' _) (by unfold maxLen; omega) (by omega) (by omega) ?_; intro v3 w6 hown3 hgrow3 _)
              go_roundw
              case rel => exact ⟨i + 1, insP x R, by go_num, by omega, HLf.out, hbw.trans ((HBW.out.trans ((HB5.out.grown hgrow3 hs5 (fun i hk => (HO2.out.lt i hk).1)).mono hVW)).mono hbs), by
                have h := hown3.mono (show w.heap.size ≤ W2.heap.size by omega)
                rw [HN3.out, HE3.out] at h
                exact h, Lib.hid (fun h => by omega), HF⟩
              case measure => simp [intOf]; omega
    · obtain rfl : i = l.length := by omega
      have HS := Lib.hid (show R = sortP l by rw [← hR.out, List.take_length, insAll_sort])
      clear hR
      go_wp2_with fail
      go_ret
      exact ⟨u3, rfl, by rw [← HS.out]; exact hown, hbw⟩
end Go.Proofs.YtbejnnkdgcelmaaGreatDoor
