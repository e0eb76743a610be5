/- Which zones, which rows of fates may be. -/
import Derived.Test.YtlceeeajhejedaaParts
import Derived.Test.YtlceeeajhejedaaAlikeA
import Derived.Test.YtlceeeajhejedaaAdMay
import Derived.Test.YtlceeeajhejedaaLabFold
set_option linter.unusedSimpArgs false
set_option linter.unusedVariables false
namespace Go.Proofs.Ytlceeeajhejedaa
open Go.RowKit Go.Proofs.Ytlceeeajhejedaa.Kind

def nameB (s : ByteArray) : Bool := P.name s.data.toList
def foldT (s : ByteArray) : ByteArray := ⟨(P.foldB s.data.toList).toArray⟩
def ansB (l : List Ad) : Bool := decide (l.length ≤ 16) && l.all mayP && decide l.Nodup
def zokB (z : Zo) : Bool := nameB z.name && decide (foldT z.name = z.name) && decide (1 ≤ z.ans.length ∧ z.ans.length ≤ 32) && z.ans.all ansB
def fokB (f : Fo) : Bool := mayP f.ad && decide (1 ≤ f.l.length ∧ f.l.length ≤ 32) && f.l.all (fun x => decide (x = 0 ∨ x = 1 ∨ x = 2))

theorem cell_eleven {w : World} {g : Nat} {x0 x1 x2 x3 x4 x5 x6 x7 x8 x9 x : Value} {t : TypeId} (h : w.heap[g]? = some (.cells #[x0, x1, x2, x3, x4, x5, x6, x7, x8, x9, x] t (0, 0))) : w.cell? ⟨g, 10, none⟩ = some x := by
  simp [World.cell?, h]

theorem fold_of (s : ByteArray) (w : World) (hs : s.size ≤ 4000) :
    Calls Try.prog 40 #[.string s] w fun e w' => e = .returned (.tuple #[.string (if nameB s then foldT s else ⟨#[]⟩), .int .i64 (if nameB s then 0 else 10)]) ∧ Below w.heap.size w w' := by
  cases h : nameB s
  · exact (Lab.fold_no s w hs h).mono fun e w' ⟨he, hb⟩ => ⟨by rw [he]; rfl, hb⟩
  · exact (Lab.fold_yes s w hs h).mono fun e w' ⟨he, hb⟩ => ⟨by rw [he]; rfl, hb⟩

set_option maxHeartbeats 8000000 in
set_option maxRecDepth 1000000 in
theorem zone_may (z : Zv) (b : Zo) (w : World) (hZ : ZoP w z b) (hs : b.name.size ≤ 4000) :
    Calls Try.prog 33 #[.agg #[.string z.name, .slice z.h.a z.h.n z.h.c]] w fun e w' => e = .returned (.bool (zokB b)) ∧ Below w.heap.size w w' := by
  obtain ⟨hnm, hal, hs2, hN⟩ := hZ
  obtain ⟨nm, ⟨za, zn, zc⟩⟩ := z
  dsimp only at hnm hal hN ⊢
  subst hnm hal
  obtain ⟨o1, ho1⟩ : ∃ o1 : Obj, o1 = .cells #[.string b.name, .slice za b.ans.length zc] 36 := ⟨_, rfl⟩
  have HB := Lib.hid (below1 w o1)
  have HL := Lib.hid (laid1 w o1)
  have HN := Lib.hid (hN.below ansP_steady (below1 w o1))
  have hlen : (b.ans.length : Int) ≤ 9223372036854775807 := len_int _ (by have h1 := hN.1; have h2 := hN.2.1.1; have h3 := hN.2.1.2.1; omega)
  rw [ho1] at HB HL HN
  clear ho1 hN
  obtain ⟨W1, hW1⟩ : ∃ W1, W1 = w.alloc (.cells #[.string b.name, .slice za b.ans.length zc] 36) := ⟨_, rfl⟩
  have hNs : W1.heap.size = w.heap.size + 1 := by rw [hW1]; simp
  rw [← hW1] at HB HL HN
  go_enter Try.func33, Try.ntmps33
  go_upto_region 1 with fail
  rw [← hW1]
  clear hW1
  have hx := cells2 HL.out
  obtain ⟨x0, x1⟩ := hx
  have HFo := Lib.hid (fold_of b.name W1 hs)
  go_wp2_with fail
  with_reducible refine HFo.out.mono ?_
  rintro e w2 ⟨rfl, hb2⟩
  have hlt : w.heap.size < W1.heap.size := by omega
  have HL2 := Lib.hid ((hb2.block w.heap.size hlt).trans HL.out)
  have HB2 := Lib.hid hb2
  clear x0 x1 hb2 HFo
  obtain ⟨x0, x1⟩ := cells2 HL2.out
  cases hn : nameB b.name
  · have HR := Lib.hid (show zokB b = false by unfold zokB; rw [hn]; rfl)
    simp only [Bool.false_eq_true, if_false]
    go_wp2_with fail
    go_ret
    exact ⟨by rw [HR.out]; rfl, HB.out.trans (HB2.out.mono (by omega))⟩
  · simp only [if_true]
    by_cases hf : foldT b.name = b.name
    · have HR := Lib.hid (show zokB b = (decide (1 ≤ b.ans.length ∧ b.ans.length ≤ 32) && b.ans.all ansB) by unfold zokB; rw [hn, decide_eq_true hf]; rfl)
      have hfe : ((foldT b.name).toList == b.name.toList) = true := by rw [text_eq]; exact decide_eq_true hf
      generalize foldT b.name = F at *
      have HCt := Lib.hid (count_ads b.ans.length za zc w2 hlen)
      clear hf hn
      go_wp2_with fail
      with_reducible refine HCt.out.mono ?_
      rintro e w3 ⟨rfl, rfl⟩
      by_cases hc : 1 ≤ b.ans.length ∧ b.ans.length ≤ 32
      · rw [decide_eq_true hc]
        have HR2 := Lib.hid (show zokB b = b.ans.all ansB by rw [HR.out, decide_eq_true hc]; rfl)
        clear hc
        go_wp2_with fail
        go_loopw [30] (fun i wr => ∃ k : Nat, i = .int .i64 k ∧ k ≤ b.ans.length ∧ Hid (NoneTo (fun l => !ansB l) b.ans k) ∧ Below W1.heap.size W1 wr) (fun i _ => b.ans.length - (intOf i).toNat)
        case atStart => exact ⟨0, rfl, by omega, Lib.hid (noneTo_zero _ _), HB2.out⟩
        case round =>
          obtain ⟨k, rfl, hk, hno, hb⟩ := hrel
          have HNo := Lib.hid hno.out
          have HBr := Lib.hid hb
          have hbs := hb.size
          clear hno hb
          by_cases hki : k < b.ans.length
          · obtain ⟨l, hl⟩ : ∃ l, b.ans[k]? = some l := ⟨_, List.getElem?_eq_getElem hki⟩
            obtain ⟨y, g, o, hy, rfl, hg, hat, hPy⟩ := (HN.out.below ansP_steady HBr.out).get hl
            have y0 := HK.one hat hy
            obtain ⟨ha, hrow⟩ := hPy
            rw [ha] at y0
            have hll : (l.length : Int) ≤ 9223372036854775807 := len_int _ (Nat.le_trans hrow.1 hrow.2.1)
            have HRw := Lib.hid hrow
            have HX := Lib.hid hl
            clear hat hy ha hrow hl
            have HC1 := Lib.hid (may_any l l.length rfl y.a y.c wr HRw.out)
            by_cases h16 : l.length ≤ 16
            · have h16i : (l.length : Int) ≤ 16 := by omega
              go_wp2_with fail
              with_reducible refine HC1.out.mono ?_
              rintro e w4 ⟨rfl, hb4⟩
              have HB4 := Lib.hid (HBr.out.trans (hb4.mono hbs))
              have hb4s := hb4.size
              have HC2 := Lib.hid (unlike_ads l l.length rfl y.a y.c w4 (HRw.out.below hb4))
              clear hb4 HC1
              cases hm : l.all mayP
              · have HAb := Lib.hid (show ansB l = false by unfold ansB; rw [hm]; simp)
                clear HC2 hm
                go_wp2_with fail
                go_ret
                exact ⟨by rw [HR2.out, all_false HX.out HAb.out]; rfl, HB.out.trans (HB4.out.mono (by omega))⟩
              · have HM := Lib.hid hm
                clear hm
                go_wp2_with fail
                with_reducible refine HC2.out.mono ?_
                rintro e w5 ⟨rfl, hb5⟩
                have HB5 := Lib.hid (HB4.out.trans (hb5.mono (by omega)))
                clear hb5 HC2
                by_cases hd : l.Nodup
                · rw [decide_eq_true hd]
                  have HAb := Lib.hid (show ansB l = true by unfold ansB; rw [HM.out, decide_eq_true hd, decide_eq_true h16]; rfl)
                  clear hd
                  go_wp2_with fail
                  go_roundw
                  case rel => exact ⟨k + 1, by go_num, by omega, Lib.hid (noneTo_step HNo.out HX.out (by rw [HAb.out]; rfl)), HB5.out⟩
                  case measure => simp [intOf]; omega
                · rw [decide_eq_false hd]
                  have HAb := Lib.hid (show ansB l = false by unfold ansB; rw [decide_eq_false hd]; simp)
                  clear hd
                  go_wp2_with fail
                  go_ret
                  exact ⟨by rw [HR2.out, all_false HX.out HAb.out]; rfl, HB.out.trans (HB5.out.mono (by omega))⟩
            · have h16i : ¬ (l.length : Int) ≤ 16 := by omega
              have HAb := Lib.hid (show ansB l = false by unfold ansB; rw [decide_eq_false h16]; simp)
              clear HC1
              go_wp2_with fail
              go_ret
              exact ⟨by rw [HR2.out, all_false HX.out HAb.out]; rfl, HB.out.trans (HBr.out.mono (by omega))⟩
          · obtain rfl : k = b.ans.length := by omega
            go_wp2_with fail
            go_ret
            exact ⟨by rw [HR2.out, all_true HNo.out]; rfl, HB.out.trans (HBr.out.mono (by omega))⟩
      · rw [decide_eq_false hc]
        have HR2 := Lib.hid (show zokB b = false by rw [HR.out, decide_eq_false hc]; rfl)
        clear hc
        go_wp2_with fail
        go_ret
        exact ⟨by rw [HR2.out]; rfl, HB.out.trans (HB2.out.mono (by omega))⟩
    · have HR := Lib.hid (show zokB b = false by unfold zokB; rw [hn, decide_eq_false hf]; rfl)
      have hfe : ((foldT b.name).toList == b.name.toList) = false := by rw [text_eq]; exact decide_eq_false hf
      generalize foldT b.name = F at *
      clear hf hn
      go_wp2_with fail
      go_ret
      exact ⟨by rw [HR.out]; rfl, HB.out.trans (HB2.out.mono (by omega))⟩

set_option maxHeartbeats 8000000 in
set_option maxRecDepth 1000000 in
theorem row_may (f : Fv) (b : Fo) (w : World) (hF : FoP w f b) :
    Calls Try.prog 34 #[.agg #[.int .i8 f.ad.f, .int .u16 f.ad.g0, .int .u16 f.ad.g1, .int .u16 f.ad.g2, .int .u16 f.ad.g3, .int .u16 f.ad.g4, .int .u16 f.ad.g5, .int .u16 f.ad.g6, .int .u16 f.ad.g7, .int .i64 f.ad.p, .slice f.h.a f.h.n f.h.c]] w fun e w' => e = .returned (.bool (fokB b)) ∧ Below w.heap.size w w' := by
  obtain ⟨had, hal, hR⟩ := hF
  obtain ⟨ad, ⟨fa, fn, fc⟩⟩ := f
  dsimp only at had hal hR ⊢
  subst had hal
  obtain ⟨o1, ho1⟩ : ∃ o1 : Obj, o1 = .cells #[.int .i8 b.ad.f, .int .u16 b.ad.g0, .int .u16 b.ad.g1, .int .u16 b.ad.g2, .int .u16 b.ad.g3, .int .u16 b.ad.g4, .int .u16 b.ad.g5, .int .u16 b.ad.g6, .int .u16 b.ad.g7, .int .i64 b.ad.p, .slice fa b.l.length fc] 39 := ⟨_, rfl⟩
  obtain ⟨o2, ho2⟩ : ∃ o2 : Obj, o2 = .cells #[.int .i8 b.ad.f, .int .u16 b.ad.g0, .int .u16 b.ad.g1, .int .u16 b.ad.g2, .int .u16 b.ad.g3, .int .u16 b.ad.g4, .int .u16 b.ad.g5, .int .u16 b.ad.g6, .int .u16 b.ad.g7, .int .i64 b.ad.p] 31 := ⟨_, rfl⟩
  have HB := Lib.hid (below2 w o1 o2)
  have HL := Lib.hid (laid2 w o1 o2).1
  have HRw := Lib.hid (hR.below (below2 w o1 o2))
  have HMa := Lib.hid (may_any [b.ad] 1 rfl (some ⟨w.heap.size + 1, 0, none⟩) 1 ((w.alloc o1).alloc o2) (by rw [ho2]; exact rowC_at (K := AK) _ 31 [b.ad] _ _ 1 (by simp) rfl rfl (by simp)))
  have hlen : (b.l.length : Int) ≤ 9223372036854775807 := len_int _ (Nat.le_trans hR.1 hR.2.1)
  rw [ho1, ho2] at HB HL HRw HMa
  clear ho1 ho2 hR
  simp only [List.all_cons, List.all_nil, Bool.and_true] at HMa
  go_enter Try.func34, Try.ntmps34
  go_wp2_with fail
  with_reducible refine HMa.out.mono ?_
  rintro e w2 ⟨rfl, hb2⟩
  have HB2 := Lib.hid (HB.out.trans (hb2.mono (by simp; omega)))
  have HL2 := Lib.hid ((hb2.block w.heap.size (by simp; omega)).trans HL.out)
  have HR3 := Lib.hid (HRw.out.below hb2)
  clear hb2 HMa HL HRw HB
  have x10 := cell_eleven HL2.out
  cases hm : mayP b.ad
  · have HF := Lib.hid (show fokB b = false by unfold fokB; rw [hm]; rfl)
    clear hm
    go_wp2_with fail
    go_ret
    exact ⟨by rw [HF.out]; rfl, HB2.out⟩
  · have HF := Lib.hid (show fokB b = (decide (1 ≤ b.l.length ∧ b.l.length ≤ 32) && b.l.all (fun x => decide (x = 0 ∨ x = 1 ∨ x = 2))) by unfold fokB; rw [hm]; rfl)
    have HCt := Lib.hid (count_fates b.l.length fa fc w2 hlen)
    clear hm
    go_wp2_with fail
    with_reducible refine HCt.out.mono ?_
    rintro e w3 ⟨rfl, rfl⟩
    by_cases hc : 1 ≤ b.l.length ∧ b.l.length ≤ 32
    · rw [decide_eq_true hc]
      have HF2 := Lib.hid (show fokB b = b.l.all (fun x => decide (x = 0 ∨ x = 1 ∨ x = 2)) by rw [HF.out, decide_eq_true hc]; rfl)
      clear hc
      go_wp2_with fail
      go_loopw [19] (fun i wr => ∃ k : Nat, i = .int .i64 k ∧ k ≤ b.l.length ∧ Hid (NoneTo (fun x : Int => !decide (x = 0 ∨ x = 1 ∨ x = 2)) b.l k) ∧ w2 = wr) (fun i _ => b.l.length - (intOf i).toNat)
      case atStart => exact ⟨0, rfl, by omega, Lib.hid (noneTo_zero _ _), by first | rfl | trivial⟩
      case round =>
        obtain ⟨k, rfl, hk, hno, rfl⟩ := hrel
        have HNo := Lib.hid hno.out
        clear hno
        by_cases hki : k < b.l.length
        · obtain ⟨y, hy⟩ : ∃ y, b.l[k]? = some y := ⟨_, List.getElem?_eq_getElem hki⟩
          obtain ⟨bb, o, rfl, hbl, hat⟩ := HR3.out.2.2.2 (by omega)
          have y0 := JK.one hat hy
          have HX := Lib.hid hy
          have HCf := Lib.hid (fate_may y w2)
          clear hy hat
          go_wp2_with fail
          with_reducible refine HCf.out.mono ?_
          rintro e w4 ⟨rfl, rfl⟩
          by_cases hq : y = 0 ∨ y = 1 ∨ y = 2
          · rw [decide_eq_true hq]
            have HQ := Lib.hid (decide_eq_true hq)
            clear hq
            go_wp2_with fail
            go_roundw
            case rel => exact ⟨k + 1, by go_num, by omega, Lib.hid (noneTo_step HNo.out HX.out (by rw [HQ.out]; rfl)), by first | rfl | trivial⟩
            case measure => simp [intOf]; omega
          · rw [decide_eq_false hq]
            have HQ := Lib.hid (decide_eq_false hq)
            clear hq
            go_wp2_with fail
            go_ret
            exact ⟨by rw [HF2.out, all_false HX.out HQ.out]; rfl, HB2.out⟩
        · obtain rfl : k = b.l.length := by omega
          go_wp2_with fail
          go_ret
          exact ⟨by rw [HF2.out, all_true HNo.out]; rfl, HB2.out⟩
    · rw [decide_eq_false hc]
      have HF2 := Lib.hid (show fokB b = false by rw [HF.out, decide_eq_false hc]; rfl)
      clear hc
      go_wp2_with fail
      go_ret
      exact ⟨by rw [HF2.out]; rfl, HB2.out⟩
end Go.Proofs.Ytlceeeajhejedaa
