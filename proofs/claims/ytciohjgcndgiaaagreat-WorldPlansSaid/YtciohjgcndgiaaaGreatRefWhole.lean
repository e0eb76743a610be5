/- Whether a plan may be, by the document's own answer. -/
import Derived.Test.YtciohjgcndgiaaaGreatCheckQ
import Derived.Test.YtciohjgcndgiaaaGreatLabR
import Derived.Test.YtciohjgcndgiaaaGreatRefMay
import Derived.Test.YtciohjgcndgiaaaGreatNew
set_option linter.unusedSimpArgs false
set_option linter.unusedVariables false
namespace Go.Proofs.YtciohjgcndgiaaaGreat
open Go.RowKit Go.Proofs.YtciohjgcndgiaaaGreat.Kind

theorem mem_take {α : Type} {l : List α} {j k : Nat} {x : α} (hx : l[j]? = some x) (hj : j < k) : x ∈ l.take k := List.mem_of_getElem? (i := j) (by rw [List.getElem?_take, if_pos hj]; exact hx)
theorem not_take {α : Type} [DecidableEq α] {l : List α} {k : Nat} {x : α} (h : NoneTo (fun y => decide (y = x)) l k) : x ∉ l.take k := fun hm => by
  obtain ⟨j, hj, e⟩ := List.getElem_of_mem hm
  have h1 : (l.take k)[j]? = some x := by rw [List.getElem?_eq_getElem hj, e]
  rw [List.getElem?_take] at h1
  split at h1
  · rename_i hjk
    have := h j x hjk h1
    simp at this
  · cases h1
set_option maxHeartbeats 8000000 in
set_option maxRecDepth 1000000 in
theorem once_any (l : List Ad) (m : Nat) (hm : m = l.length) (hl : l.length ≤ 100000) (a : Option Addr) (c : Nat) (w : World) (hR : AK.RowC w a c l) :
    Calls Tryz.prog 74 #[.slice a m c] w fun e w' => e = .returned (.bool (decide l.Nodup && l.all mayP)) ∧ Below w.heap.size w w' := by
  subst hm
  have HR := Lib.hid hR
  have hll : (l.length : Int) ≤ 100000 := by omega
  clear hR
  go_enter Tryz.func74, Tryz.ntmps74
  go_wp2_with fail
  go_loopw [3] (fun u wr => ∃ i : Nat, u = .int .i64 i ∧ i ≤ l.length ∧ Hid ((l.take i).Nodup) ∧ Below w.heap.size w wr) (fun u _ => l.length - (intOf u).toNat)
  case atStart => exact ⟨0, rfl, by omega, Lib.hid (by simp), Below.refl _ _⟩
  case round =>
    obtain ⟨i, rfl, hi, hn, hb⟩ := hrel
    have HN := Lib.hid hn.out
    have HB := Lib.hid hb
    clear hn hb
    by_cases hlt : i < l.length
    · obtain ⟨x, hx⟩ : ∃ x, l[i]? = some x := ⟨_, List.getElem?_eq_getElem hlt⟩
      obtain ⟨b, o, rfl, hbl, hat⟩ := HR.out.2.2.2 (by omega)
      have HX := Lib.hid hx
      have HAt := Lib.hid hat
      have hii : (i : Int) < (l.length : Int) := by omega
      clear hx hat
      obtain ⟨w0, hw0⟩ : ∃ w0 : World, w0 = wr := ⟨_, rfl⟩
      go_wp2_with fail
      go_loopw [4] (fun u wi => ∃ k : Nat, u = .int .i64 k ∧ k ≤ i ∧ Hid (NoneTo (fun y => decide (y = x)) l k) ∧ Below w.heap.size w wi) (fun u _ => i - (intOf u).toNat)
      case atStart => exact ⟨0, rfl, by omega, Lib.hid (noneTo_zero _ _), HB.out⟩
      case round =>
        obtain ⟨k, rfl, hk, hno, hb⟩ := hrel
        have HNo := Lib.hid hno.out
        have HB2 := Lib.hid hb
        clear hno hb
        by_cases hki : k < i
        · obtain ⟨y, hy⟩ : ∃ y, l[k]? = some y := ⟨_, List.getElem?_eq_getElem (by omega)⟩
          obtain ⟨⟨x0, x1, x2, x3, x4⟩, x5, x6, x7, x8, x9⟩ := AK.ten (HAt.out.below HB2.out hbl) HX.out
          obtain ⟨⟨y0, y1, y2, y3, y4⟩, y5, y6, y7, y8, y9⟩ := AK.ten (HAt.out.below HB2.out hbl) hy
          have hE := eql_adC y x
          have hG := guard_ad
          have HY := Lib.hid hy
          have hkk : (k : Int) < (i : Int) := by omega
          have hkl : (k : Int) < (l.length : Int) := by omega
          clear hy
          by_cases hq : y = x
          · have hd : decide (y = x) = true := decide_eq_true hq
            rw [hd] at hE
            have HQ := Lib.hid hq
            clear hq hd
            go_upto_region 7 with fail
            go_quiet (fail)
            go_wp2_with fail
            go_ret
            exact ⟨by rw [nodup_no HX.out (mem_take (by rw [HY.out, HQ.out]) hki)]; rfl, by first | exact HB2.out | exact below_drewN HB2.out _⟩
          · have hd : decide (y = x) = false := decide_eq_false hq
            rw [hd] at hE
            have HD := Lib.hid hd
            clear hq hd
            go_upto_region 7 with fail
            go_quiet (fail)
            go_wp2_with fail
            go_roundw
            case rel => exact ⟨k + 1, by go_num, by omega, Lib.hid (noneTo_step HNo.out HY.out HD.out), by first | exact HB2.out | exact below_drewN HB2.out _⟩
            case measure => simp [intOf]; omega
        · obtain rfl : k = i := by omega
          have HN2 := Lib.hid (nodup_yes HX.out (not_take HNo.out) HN.out)
          go_wp2_with fail
          go_roundw
          case rel => exact ⟨k + 1, by go_num, by omega, HN2, HB2.out⟩
          case measure => simp [intOf]; omega
    · obtain rfl : i = l.length := by omega
      have HN2 := Lib.hid (show l.Nodup by have := HN.out; rwa [List.take_of_length_le (Nat.le_refl _)] at this)
      have HM := Lib.hid (refMay_any l a c wr hl (HR.out.below HB.out))
      go_wp2_with fail
      with_reducible refine HM.out.mono ?_
      rintro e w2 ⟨rfl, hb2⟩
      have HB2 := Lib.hid (HB.out.trans (hb2.mono HB.out.size))
      clear hb2 HM
      generalize hq : l.all mayP = q
      have HQ := Lib.hid hq
      clear hq
      go_wp2_with fail
      go_ret
      exact ⟨by rw [decide_eq_true HN2.out, HQ.out]; rfl, HB2.out⟩
end Go.Proofs.YtciohjgcndgiaaaGreat

set_option linter.unusedSimpArgs false
set_option linter.unusedVariables false
namespace Go.Proofs.YtciohjgcndgiaaaGreat
open Go.RowKit Go.Proofs.YtciohjgcndgiaaaGreat.Kind

theorem rfold_of (s : ByteArray) (w : World) (hs : s.size ≤ 4000) :
    Calls Tryz.prog 73 #[.string s] w fun e w' => e = .returned (.tuple #[.string (if nameB s then foldT s else ⟨#[]⟩), .int .i64 (if nameB s then 0 else 10)]) ∧ Below w.heap.size w w' := by
  cases h : nameB s
  · exact (Lab.rfold_no s w hs h).mono fun e w' ⟨he, hb⟩ => ⟨by rw [he]; rfl, hb⟩
  · exact (Lab.rfold_yes s w hs h).mono fun e w' ⟨he, hb⟩ => ⟨by rw [he]; rfl, hb⟩

def zonesB (Zs : List Zo) : Bool := Zs.all zokB && decide ((Zs.map (·.name)).Nodup) && decide (Zs.length ≤ 8)
theorem names_at {Zs : List Zo} {k : Nat} {b : Zo} (h : Zs[k]? = some b) : (Zs.map (·.name))[k]? = some b.name := by rw [List.getElem?_map, h]; rfl

set_option maxHeartbeats 16000000 in
set_option maxRecDepth 1000000 in
theorem refzones_any (zs : List Zv) (Zs : List Zo) (m : Nat) (hm : m = Zs.length) (hl : Zs.length ≤ 100000) (a : Option Addr) (c : Nat) (w : World) (hZ : ZK.NestC ZoP w a c zs Zs) (hs : ∀ z ∈ Zs, z.name.size ≤ 4000) :
    Calls Tryz.prog 50 #[.slice a m c] w fun e w' => e = .returned (.bool (zonesB Zs)) ∧ Below w.heap.size w w' := by
  obtain ⟨n, hn⟩ : ∃ n, n = Zs.length := ⟨_, rfl⟩
  rw [← hn] at hm
  subst hm
  have HE := Lib.hid hn
  have HZ := Lib.hid hZ
  have HS := Lib.hid hs
  have hml : (m : Int) ≤ 100000 := by omega
  clear hZ hs hn hl
  go_enter Tryz.func50, Tryz.ntmps50
  go_wp2_with fail
  go_loopw [3] (fun u wr => ∃ i : Nat, u = .int .i64 i ∧ i ≤ m ∧ Hid (NoneTo (fun z => !zokB z) Zs i) ∧ Hid (((Zs.map (·.name)).take i).Nodup) ∧ Below w.heap.size w wr) (fun u _ => m - (intOf u).toNat)
  case atStart => exact ⟨0, rfl, by omega, Lib.hid (noneTo_zero _ _), Lib.hid (by simp), Below.refl _ _⟩
  case round =>
    obtain ⟨i, rfl, hi, hno, hnd, hb⟩ := hrel
    obtain ⟨wo, rfl⟩ : ∃ wo : World, wo = wr := ⟨_, rfl⟩
    have HNo := Lib.hid hno.out
    have HNd := Lib.hid hnd.out
    have HB := Lib.hid hb
    have hbs := hb.size
    clear hno hnd hb
    by_cases hlt : i < m
    · obtain ⟨b, hbz⟩ : ∃ b, Zs[i]? = some b := ⟨_, List.getElem?_eq_getElem (by rw [← HE.out]; exact hlt)⟩
      obtain ⟨⟨xn, xh⟩, g, o, hx, rfl, hg, hat, hPz⟩ := (HZ.out.below zoP_steady HB.out).get hbz
      obtain rfl : xn = b.name := hPz.1
      have HX := Lib.hid hbz
      have HXn := Lib.hid (names_at hbz)
      have hii : (i : Int) < (m : Int) := by omega
      obtain ⟨hnm, hal, hs2, hans⟩ := hPz
      dsimp only at hal hans
      obtain ⟨an, ham⟩ : ∃ an, an = b.ans.length := ⟨_, rfl⟩
      have HAl := Lib.hid (show xh.n = an by rw [ham]; exact hal)
      have HAm := Lib.hid ham
      have HCells := Lib.hid (show ∀ W : World, Below wo.heap.size wo W → W.cell? ⟨g, o + i * 2, none⟩ = some (.string b.name) ∧ W.cell? ⟨g, o + i * 2 + 1, none⟩ = some (.slice xh.a an xh.c) from fun W hb => by
        have h := ZK.two (hat.below hb hg) hx
        rw [show an = xh.n from HAl.out.symm]
        exact h)
      have HAns := Lib.hid hans
      have HSz := Lib.hid (HS.out b (List.mem_of_getElem? hbz))
      have HFo := Lib.hid (rfold_of b.name wo HSz.out)
      have hanl : (an : Int) ≤ 9223372036854775807 := len_intC _ (by rw [HAm.out]; have h1 := hans.1; have h2 := hans.2.1.1; have h3 := hans.2.1.2.1; omega)
      obtain ⟨x0, x1⟩ := HCells.out wo (Below.refl _ _)
      clear hbz hx hat hnm hal hans ham
      go_wp2_with fail
      with_reducible refine HFo.out.mono ?_
      rintro e w2 ⟨rfl, hb2⟩
      have HB2 := Lib.hid hb2
      clear x0 x1 hb2 HFo
      obtain ⟨x0, x1⟩ := HCells.out w2 HB2.out
      have HBw := Lib.hid (HB.out.trans (HB2.out.mono hbs))
      cases hnb : nameB b.name
      · have HZf := Lib.hid (show zokB b = false by unfold zokB; rw [hnb]; rfl)
        simp only [Bool.false_eq_true, if_false]
        clear hnb
        go_wp2_with fail
        go_ret
        exact ⟨by unfold zonesB; rw [all_falseC HX.out HZf.out]; rfl, HBw.out⟩
      · simp only [if_true]
        by_cases hf : foldT b.name = b.name
        · have HR := Lib.hid (show zokB b = (decide (1 ≤ b.ans.length ∧ b.ans.length ≤ 32) && b.ans.all ansB) by unfold zokB; rw [hnb, decide_eq_true hf]; rfl)
          have hfe : ((foldT b.name).toList == b.name.toList) = true := by rw [text_eq]; exact decide_eq_true hf
          generalize foldT b.name = F at *
          clear hf hnb
          by_cases hc : 1 ≤ an ∧ an ≤ 32
          · have HR2 := Lib.hid (show zokB b = b.ans.all ansB by rw [HR.out, decide_eq_true (by rw [← HAm.out]; exact hc)]; rfl)
            have hc1 : ¬ (an : Int) < 1 := by omega
            have hc2 : ¬ (32 : Int) < (an : Int) := by omega
            go_wp2_with fail
            go_loopw [6] (fun u wi => ∃ k : Nat, u = .int .i64 k ∧ k ≤ i ∧ Hid (NoneTo (fun s : ByteArray => decide (s = b.name)) (Zs.map (·.name)) k) ∧ Below wo.heap.size wo wi) (fun u _ => i - (intOf u).toNat)
            case atStart => exact ⟨0, rfl, by omega, Lib.hid (noneTo_zero _ _), HB2.out⟩
            case round =>
              obtain ⟨k, rfl, hk, hno, hb⟩ := hrel
              obtain ⟨wk, rfl⟩ : ∃ wk : World, wk = wr := ⟨_, rfl⟩
              have HNk := Lib.hid hno.out
              have HBk := Lib.hid hb
              clear hno hb x0 x1
              obtain ⟨x0, x1⟩ := HCells.out _ HBk.out
              by_cases hki : k < i
              · obtain ⟨y, hyz⟩ : ∃ y, Zs[k]? = some y := ⟨_, List.getElem?_eq_getElem (by rw [← HE.out]; omega)⟩
                obtain ⟨⟨yn, yh⟩, g2, o2, hy, e2, hg2, hat2, hPy⟩ := (HZ.out.below zoP_steady (HB.out.trans (HBk.out.mono hbs))).get hyz
                obtain ⟨rfl, rfl⟩ : g2 = g ∧ o2 = o := by injection e2 with e2; injection e2 with e3 e4; exact ⟨e3.symm, e4.symm⟩
                obtain rfl : yn = y.name := hPy.1
                obtain ⟨y0, y1⟩ := ZK.two hat2 hy
                have HY := Lib.hid (names_at hyz)
                have hkk : (k : Int) < (i : Int) := by omega
                have hkm : (k : Int) < (m : Int) := by omega
                clear hyz hy hat2 hPy e2
                by_cases hq : y.name = b.name
                · have hqe : (y.name.toList == b.name.toList) = true := by rw [text_eq]; exact decide_eq_true hq
                  have HQ := Lib.hid hq
                  clear hq
                  go_upto_region 10 with fail
                  go_quiet (fail)
                  go_wp2_with fail
                  go_ret
                  exact ⟨by unfold zonesB; rw [nodup_no HXn.out (mem_take (by rw [HY.out, HQ.out]) hki)]; simp, HB.out.trans ((by first | exact HBk.out | exact below_drewN HBk.out _ : Below wo.heap.size wo _).mono hbs)⟩
                · have hqe : (y.name.toList == b.name.toList) = false := by rw [text_eq]; exact decide_eq_false hq
                  have HQ := Lib.hid (decide_eq_false hq)
                  clear hq
                  go_upto_region 10 with fail
                  go_quiet (fail)
                  go_wp2_with fail
                  go_roundw
                  case rel => exact ⟨k + 1, by go_num, by omega, Lib.hid (noneTo_step HNk.out HY.out HQ.out), by first | exact HBk.out | exact below_drewN HBk.out _⟩
                  case measure => simp [intOf]; omega
              · obtain rfl : k = i := by omega
                have HNd2 := Lib.hid (nodup_yes HXn.out (not_take HNk.out) HNd.out)
                go_wp2_with fail
                go_loopw [7] (fun u wi => ∃ j : Nat, u = .int .i64 j ∧ j ≤ an ∧ Hid (NoneTo (fun l => !ansB l) b.ans j) ∧ Below wo.heap.size wo wi) (fun u _ => an - (intOf u).toNat)
                case atStart => exact ⟨0, rfl, by omega, Lib.hid (noneTo_zero _ _), HBk.out⟩
                case round =>
                  obtain ⟨j, rfl, hj, hno, hb⟩ := hrel
                  have HNj := Lib.hid hno.out
                  have HBj := Lib.hid hb
                  have hjs := hb.size
                  clear hno hb x0 x1
                  obtain ⟨x0, x1⟩ := HCells.out _ HBj.out
                  by_cases hja : j < an
                  · obtain ⟨l, hlz⟩ : ∃ l, b.ans[j]? = some l := ⟨_, List.getElem?_eq_getElem (by rw [← HAm.out]; exact hja)⟩
                    obtain ⟨y, g3, o3, hy, e3, hg3, hat3, hPy⟩ := (HAns.out.below ansP_steady HBj.out).get hlz
                    have hxa : xh.a = some ⟨g3, o3, none⟩ := e3
                    rw [hxa] at x1
                    have y0 := HK.one hat3 hy
                    obtain ⟨hla, hrow⟩ := hPy
                    rw [hla] at y0
                    have hll : (l.length : Int) ≤ 9223372036854775807 := len_intC _ (Nat.le_trans hrow.1 hrow.2.1)
                    have HRw := Lib.hid hrow
                    have HL := Lib.hid hlz
                    have hji : (j : Int) < (an : Int) := by omega
                    clear hlz hg3 hy hat3 hla hrow hxa e3
                    by_cases h16 : l.length ≤ 16
                    · have h16i : ¬ (16 : Int) < (l.length : Int) := by omega
                      have HOn := Lib.hid (once_any l l.length rfl (by omega) y.a y.c _ HRw.out)
                      go_wp2_with fail
                      with_reducible refine HOn.out.mono ?_
                      rintro e w4 ⟨rfl, hb4⟩
                      have HB4 := Lib.hid (HBj.out.trans (hb4.mono hjs))
                      clear hb4 HOn
                      cases hq : (decide l.Nodup && l.all mayP)
                      · have HAb := Lib.hid (show ansB l = false by unfold ansB; rw [Bool.and_assoc, Bool.and_comm (l.all mayP), hq, Bool.and_false])
                        clear hq
                        go_wp2_with fail
                        go_ret
                        exact ⟨by unfold zonesB; rw [all_falseC HX.out (by rw [HR2.out, all_falseC HL.out HAb.out])]; rfl, HB.out.trans (HB4.out.mono hbs)⟩
                      · have HAb := Lib.hid (show ansB l = true by unfold ansB; rw [Bool.and_assoc, Bool.and_comm (l.all mayP), hq, Bool.and_true]; exact decide_eq_true h16)
                        clear hq
                        go_wp2_with fail
                        go_roundw
                        case rel => exact ⟨j + 1, by go_num, by omega, Lib.hid (noneTo_step HNj.out HL.out (by rw [HAb.out]; rfl)), HB4.out⟩
                        case measure => simp [intOf]; omega
                    · have h16i : (16 : Int) < (l.length : Int) := by omega
                      have HAb := Lib.hid (show ansB l = false by unfold ansB; rw [decide_eq_false h16]; rfl)
                      go_wp2_with fail
                      go_ret
                      exact ⟨by unfold zonesB; rw [all_falseC HX.out (by rw [HR2.out, all_falseC HL.out HAb.out])]; rfl, HB.out.trans (HBj.out.mono hbs)⟩
                  · obtain rfl : j = an := by omega
                    have HZt := Lib.hid (show zokB b = true by rw [HR2.out]; exact all_trueC (by rw [← HAm.out]; exact HNj.out))
                    go_wp2_with fail
                    go_roundw
                    case rel => exact ⟨k + 1, by go_num, by omega, Lib.hid (noneTo_step HNo.out HX.out (by rw [HZt.out]; rfl)), HNd2, HB.out.trans (HBj.out.mono hbs)⟩
                    case measure => simp [intOf]; omega
          · have HZf := Lib.hid (show zokB b = false by rw [HR.out, decide_eq_false (by rw [← HAm.out]; exact hc)]; rfl)
            rcases (show an < 1 ∨ (¬ an < 1 ∧ 32 < an) by omega) with h1 | ⟨h1, h2⟩
            · have hc1 : (an : Int) < 1 := by omega
              clear hc h1
              go_wp2_with fail
              go_ret
              exact ⟨by unfold zonesB; rw [all_falseC HX.out HZf.out]; rfl, HBw.out⟩
            · have hc1 : ¬ (an : Int) < 1 := by omega
              have hc2 : (32 : Int) < (an : Int) := by omega
              clear hc h1 h2
              go_wp2_with fail
              go_ret
              exact ⟨by unfold zonesB; rw [all_falseC HX.out HZf.out]; rfl, HBw.out⟩
        · have HZf := Lib.hid (show zokB b = false by unfold zokB; rw [hnb, decide_eq_false hf]; rfl)
          have hfe : ((foldT b.name).toList == b.name.toList) = false := by rw [text_eq]; exact decide_eq_false hf
          generalize foldT b.name = F at *
          clear hf hnb
          go_wp2_with fail
          go_ret
          exact ⟨by unfold zonesB; rw [all_falseC HX.out HZf.out]; rfl, HBw.out⟩
    · obtain rfl : i = m := by omega
      have HA := Lib.hid (show Zs.all zokB = true from all_trueC (by rw [← HE.out]; exact HNo.out))
      have HD := Lib.hid (show (Zs.map (·.name)).Nodup by have := HNd.out; rwa [List.take_of_length_le (by simp; have := HE.out; omega)] at this)
      by_cases h8 : i ≤ 8
      · have h8i : (i : Int) ≤ 8 := by omega
        have HR := Lib.hid (show zonesB Zs = true by unfold zonesB; rw [HA.out, decide_eq_true HD.out, decide_eq_true (show Zs.length ≤ 8 by rw [← HE.out]; exact h8)]; rfl)
        go_wp2_with fail
        go_ret
        exact ⟨by rw [HR.out]; first | rfl | simp [*], HB.out⟩
      · have h8i : ¬ (i : Int) ≤ 8 := by omega
        have HR := Lib.hid (show zonesB Zs = false by unfold zonesB; rw [decide_eq_false (show ¬ Zs.length ≤ 8 by rw [← HE.out]; exact h8)]; simp)
        go_wp2_with fail
        go_ret
        exact ⟨by rw [HR.out]; first | rfl | simp [*], HB.out⟩
end Go.Proofs.YtciohjgcndgiaaaGreat

set_option linter.unusedSimpArgs false
set_option linter.unusedVariables false
namespace Go.Proofs.YtciohjgcndgiaaaGreat
open Go.RowKit Go.Proofs.YtciohjgcndgiaaaGreat.Kind

def fatesB (Fs : List Fo) : Bool := Fs.all fokB && decide ((Fs.map (·.ad)).Nodup) && decide (Fs.length ≤ 32)
theorem ads_at {Fs : List Fo} {k : Nat} {b : Fo} (h : Fs[k]? = some b) : (Fs.map (·.ad))[k]? = some b.ad := by rw [List.getElem?_map, h]; rfl
def fate3 (x : Int) : Bool := decide (x = 0 ∨ x = 1 ∨ x = 2)

set_option maxHeartbeats 16000000 in
set_option maxRecDepth 1000000 in
theorem reffates_any (fs : List Fv) (Fs : List Fo) (m : Nat) (hm : m = Fs.length) (hl : Fs.length ≤ 100000) (a : Option Addr) (c : Nat) (w : World) (hF : FK.NestC FoP w a c fs Fs) :
    Calls Tryz.prog 51 #[.slice a m c] w fun e w' => e = .returned (.bool (fatesB Fs)) ∧ Below w.heap.size w w' := by
  obtain ⟨n, hn⟩ : ∃ n, n = Fs.length := ⟨_, rfl⟩
  rw [← hn] at hm
  subst hm
  have HE := Lib.hid hn
  have HF := Lib.hid hF
  have hml : (m : Int) ≤ 100000 := by omega
  clear hF hn hl
  go_enter Tryz.func51, Tryz.ntmps51
  go_wp2_with fail
  go_loopw [3] (fun u wr => ∃ i : Nat, u = .int .i64 i ∧ i ≤ m ∧ Hid (NoneTo (fun z => !fokB z) Fs i) ∧ Hid (((Fs.map (·.ad)).take i).Nodup) ∧ Below w.heap.size w wr) (fun u _ => m - (intOf u).toNat)
  case atStart => exact ⟨0, rfl, by omega, Lib.hid (noneTo_zero _ _), Lib.hid (by simp), Below.refl _ _⟩
  case round =>
    obtain ⟨i, rfl, hi, hno, hnd, hb⟩ := hrel
    obtain ⟨wo, rfl⟩ : ∃ wo : World, wo = wr := ⟨_, rfl⟩
    have HNo := Lib.hid hno.out
    have HNd := Lib.hid hnd.out
    have HB := Lib.hid hb
    have hbs := hb.size
    clear hno hnd hb
    by_cases hlt : i < m
    · obtain ⟨b, hbz⟩ : ∃ b, Fs[i]? = some b := ⟨_, List.getElem?_eq_getElem (by rw [← HE.out]; exact hlt)⟩
      obtain ⟨⟨xad, xh⟩, g, o, hx, rfl, hg, hat, hPz⟩ := (HF.out.below foP_steady HB.out).get hbz
      obtain rfl : xad = b.ad := hPz.1
      have HX := Lib.hid hbz
      have HXa := Lib.hid (ads_at hbz)
      have hii : (i : Int) < (m : Int) := by omega
      obtain ⟨had, hal, hrow⟩ := hPz
      dsimp only at hal hrow
      obtain ⟨an, ham⟩ : ∃ an, an = b.l.length := ⟨_, rfl⟩
      have HAm := Lib.hid ham
      have hanl : (an : Int) ≤ 9223372036854775807 := len_intC _ (by rw [ham]; exact Nat.le_trans hrow.1 hrow.2.1)
      have HCells := Lib.hid (show ∀ W : World, Below wo.heap.size wo W → _ from fun W hb => FK.row11C (hat.below hb hg) hx)
      have HC10 := Lib.hid (show ∀ W : World, Below wo.heap.size wo W → W.cell? ⟨g, o + i * 11 + 10, none⟩ = some (.slice xh.a an xh.c) from fun W hb => by
        have h := (FK.row11C (hat.below hb hg) hx).2.2.2.2.2
        rw [show an = xh.n by rw [ham]; exact hal.symm]
        exact h)
      have HRow := Lib.hid hrow
      have HMa := Lib.hid (refMay_any [b.ad] (some ⟨wo.heap.size, 0, none⟩) 1 (wo.alloc (.cells #[.int .i8 b.ad.f, .int .u16 b.ad.g0, .int .u16 b.ad.g1, .int .u16 b.ad.g2, .int .u16 b.ad.g3, .int .u16 b.ad.g4, .int .u16 b.ad.g5, .int .u16 b.ad.g6, .int .u16 b.ad.g7, .int .i64 b.ad.p] 50)) (by simp) (rowC_at (K := AK) wo 50 [b.ad] _ _ 1 rfl rfl rfl (by simp)))
      simp only [List.all_cons, List.all_nil, Bool.and_true, List.length_cons, List.length_nil, Nat.zero_add] at HMa
      obtain ⟨⟨x0, x1, x2, x3, x4, x5⟩, x6, x7, x8, x9, _⟩ := HCells.out wo (Below.refl _ _)
      clear hbz hx hat hal hrow ham had
      go_wp2_with fail
      with_reducible refine HMa.out.mono ?_
      rintro e w2 ⟨rfl, hb2⟩
      have HB2 := Lib.hid ((below1 wo (.cells #[.int .i8 b.ad.f, .int .u16 b.ad.g0, .int .u16 b.ad.g1, .int .u16 b.ad.g2, .int .u16 b.ad.g3, .int .u16 b.ad.g4, .int .u16 b.ad.g5, .int .u16 b.ad.g6, .int .u16 b.ad.g7, .int .i64 b.ad.p] 50)).trans (hb2.mono (by simp)))
      clear x0 x1 x2 x3 x4 x5 x6 x7 x8 x9 hb2 HMa
      have x10 := HC10.out w2 HB2.out
      have HBw := Lib.hid (HB.out.trans (HB2.out.mono hbs))
      cases hma : mayP b.ad
      · have HZf := Lib.hid (show fokB b = false by unfold fokB; rw [hma]; rfl)
        clear hma
        go_wp2_with fail
        go_ret
        exact ⟨by unfold fatesB; rw [all_falseC HX.out HZf.out]; rfl, HBw.out⟩
      · have HR := Lib.hid (show fokB b = (decide (1 ≤ b.l.length ∧ b.l.length ≤ 32) && b.l.all fate3) by unfold fokB; rw [hma]; rfl)
        clear hma
        by_cases hc : 1 ≤ an ∧ an ≤ 32
        · have HR2 := Lib.hid (show fokB b = b.l.all fate3 by rw [HR.out, decide_eq_true (show 1 ≤ b.l.length ∧ b.l.length ≤ 32 by rw [← HAm.out]; exact hc)]; rfl)
          have hc1 : ¬ (an : Int) < 1 := by omega
          have hc2 : ¬ (32 : Int) < (an : Int) := by omega
          go_wp2_with fail
          go_loopw [4] (fun u wi => ∃ k : Nat, u = .int .i64 k ∧ k ≤ i ∧ Hid (NoneTo (fun s : Ad => decide (s = b.ad)) (Fs.map (·.ad)) k) ∧ Below wo.heap.size wo wi) (fun u _ => i - (intOf u).toNat)
          case atStart => exact ⟨0, rfl, by omega, Lib.hid (noneTo_zero _ _), HB2.out⟩
          case round =>
            obtain ⟨k, rfl, hk, hno, hb⟩ := hrel
            obtain ⟨wk, rfl⟩ : ∃ wk : World, wk = wr := ⟨_, rfl⟩
            have HNk := Lib.hid hno.out
            have HBk := Lib.hid hb
            clear hno hb x10
            by_cases hki : k < i
            · obtain ⟨y, hyz⟩ : ∃ y, Fs[k]? = some y := ⟨_, List.getElem?_eq_getElem (by rw [← HE.out]; omega)⟩
              obtain ⟨⟨yad, yh⟩, g2, o2, hy, e2, hg2, hat2, hPy⟩ := (HF.out.below foP_steady (HB.out.trans (HBk.out.mono hbs))).get hyz
              obtain ⟨rfl, rfl⟩ : g2 = g ∧ o2 = o := by injection e2 with e2; injection e2 with e3 e4; exact ⟨e3.symm, e4.symm⟩
              obtain rfl : yad = y.ad := hPy.1
              obtain ⟨⟨x0, x1, x2, x3, x4, x5⟩, x6, x7, x8, x9, _⟩ := HCells.out wk HBk.out
              obtain ⟨⟨y0, y1, y2, y3, y4, y5⟩, y6, y7, y8, y9, _⟩ := FK.row11C hat2 hy
              have hE := eql_adC y.ad b.ad
              have hG := guard_ad
              have HY := Lib.hid (ads_at hyz)
              have hkk : (k : Int) < (i : Int) := by omega
              have hkm : (k : Int) < (m : Int) := by omega
              clear hyz hy hat2 hPy e2
              by_cases hq : y.ad = b.ad
              · have hd : decide (y.ad = b.ad) = true := decide_eq_true hq
                rw [hd] at hE
                have HQ := Lib.hid hq
                clear hq hd
                go_upto_region 9 with fail
                go_quiet (fail)
                go_wp2_with fail
                go_ret
                exact ⟨by unfold fatesB; rw [nodup_no HXa.out (mem_take (by rw [HY.out, HQ.out]) hki)]; simp, HB.out.trans ((by first | exact HBk.out | exact below_drewN HBk.out _ : Below wo.heap.size wo _).mono hbs)⟩
              · have hd : decide (y.ad = b.ad) = false := decide_eq_false hq
                rw [hd] at hE
                have HQ := Lib.hid hd
                clear hq hd
                go_upto_region 9 with fail
                go_quiet (fail)
                go_wp2_with fail
                go_roundw
                case rel => exact ⟨k + 1, by go_num, by omega, Lib.hid (noneTo_step HNk.out HY.out HQ.out), by first | exact HBk.out | exact below_drewN HBk.out _⟩
                case measure => simp [intOf]; omega
            · obtain rfl : k = i := by omega
              have HNd2 := Lib.hid (nodup_yes HXa.out (not_take HNk.out) HNd.out)
              have x10 := HC10.out _ HBk.out
              go_wp2_with fail
              go_loopw [5] (fun u wi => ∃ j : Nat, u = .int .i64 j ∧ j ≤ an ∧ Hid (NoneTo (fun x => !fate3 x) b.l j) ∧ wk = wi) (fun u _ => an - (intOf u).toNat)
              case atStart => exact ⟨0, rfl, by omega, Lib.hid (noneTo_zero _ _), by first | rfl | trivial⟩
              case round =>
                obtain ⟨j, rfl, hj, hno, rfl⟩ := hrel
                have HNj := Lib.hid hno.out
                clear hno
                by_cases hja : j < an
                · obtain ⟨y, hyz⟩ : ∃ y, b.l[j]? = some y := ⟨_, List.getElem?_eq_getElem (by rw [← HAm.out]; exact hja)⟩
                  obtain ⟨g3, o3, e3, hg3, hat3⟩ := (HRow.out.below HBk.out).2.2.2 (by rw [← HAm.out]; omega)
                  rw [e3] at x10
                  have y0 := JK.one hat3 hyz
                  have HY := Lib.hid hyz
                  have hji : (j : Int) < (an : Int) := by omega
                  clear hat3 hyz hg3 e3
                  by_cases h0 : y < 0
                  · have HAb := Lib.hid (show fate3 y = false by unfold fate3; exact decide_eq_false (by omega))
                    go_wp2_with fail
                    go_ret
                    exact ⟨by unfold fatesB; rw [all_falseC HX.out (by rw [HR2.out, all_falseC HY.out HAb.out])]; rfl, HB.out.trans (HBk.out.mono hbs)⟩
                  · by_cases h2 : 2 < y
                    · have HAb := Lib.hid (show fate3 y = false by unfold fate3; exact decide_eq_false (by omega))
                      go_wp2_with fail
                      go_ret
                      exact ⟨by unfold fatesB; rw [all_falseC HX.out (by rw [HR2.out, all_falseC HY.out HAb.out])]; rfl, HB.out.trans (HBk.out.mono hbs)⟩
                    · have HAb := Lib.hid (show fate3 y = true by unfold fate3; exact decide_eq_true (by omega))
                      go_wp2_with fail
                      go_roundw
                      case rel => exact ⟨j + 1, by go_num, by omega, Lib.hid (noneTo_step HNj.out HY.out (by rw [HAb.out]; rfl)), by first | rfl | trivial⟩
                      case measure => simp [intOf]; omega
                · obtain rfl : j = an := by omega
                  have HZt := Lib.hid (show fokB b = true by rw [HR2.out]; exact all_trueC (by rw [← HAm.out]; exact HNj.out))
                  go_wp2_with fail
                  go_roundw
                  case rel => exact ⟨k + 1, by go_num, by omega, Lib.hid (noneTo_step HNo.out HX.out (by rw [HZt.out]; rfl)), HNd2, HB.out.trans (HBk.out.mono hbs)⟩
                  case measure => simp [intOf]; omega
        · have HZf := Lib.hid (show fokB b = false by rw [HR.out, decide_eq_false (show ¬ (1 ≤ b.l.length ∧ b.l.length ≤ 32) by rw [← HAm.out]; exact hc)]; rfl)
          rcases (show an < 1 ∨ (¬ an < 1 ∧ 32 < an) by omega) with h1 | ⟨h1, h2⟩
          · have hc1 : (an : Int) < 1 := by omega
            clear hc h1
            go_wp2_with fail
            go_ret
            exact ⟨by unfold fatesB; rw [all_falseC HX.out HZf.out]; rfl, HBw.out⟩
          · have hc1 : ¬ (an : Int) < 1 := by omega
            have hc2 : (32 : Int) < (an : Int) := by omega
            clear hc h1 h2
            go_wp2_with fail
            go_ret
            exact ⟨by unfold fatesB; rw [all_falseC HX.out HZf.out]; rfl, HBw.out⟩
    · obtain rfl : i = m := by omega
      have HA := Lib.hid (show Fs.all fokB = true from all_trueC (by rw [← HE.out]; exact HNo.out))
      have HD := Lib.hid (show (Fs.map (·.ad)).Nodup by have := HNd.out; rwa [List.take_of_length_le (by simp; have := HE.out; omega)] at this)
      by_cases h8 : i ≤ 32
      · have h8i : (i : Int) ≤ 32 := by omega
        have HR := Lib.hid (show fatesB Fs = true by unfold fatesB; rw [HA.out, decide_eq_true HD.out, decide_eq_true (show Fs.length ≤ 32 by rw [← HE.out]; exact h8)]; rfl)
        go_wp2_with fail
        go_ret
        exact ⟨by rw [HR.out]; first | rfl | simp [*], HB.out⟩
      · have h8i : ¬ (i : Int) ≤ 32 := by omega
        have HR := Lib.hid (show fatesB Fs = false by unfold fatesB; rw [decide_eq_false (show ¬ Fs.length ≤ 32 by rw [← HE.out]; exact h8)]; simp)
        go_wp2_with fail
        go_ret
        exact ⟨by rw [HR.out]; first | rfl | simp [*], HB.out⟩
end Go.Proofs.YtciohjgcndgiaaaGreat

set_option linter.unusedSimpArgs false
set_option linter.unusedVariables false
namespace Go.Proofs.YtciohjgcndgiaaaGreat
open Go.RowKit Go.Proofs.YtciohjgcndgiaaaGreat.Kind

theorem check_ref (P : Pl) : checkB theR P = (zonesB P.zones && (fatesB P.fates && (decide (0 ≤ P.ticks) && (decide (P.ticks ≤ 200) && (decide (P.drops.length ≤ 16) && P.drops.all (fun d => decide (0 ≤ d))))))) := by
  unfold checkB zonesB fatesB theR
  rw [Bool.eq_iff_iff]
  simp only [Bool.and_eq_true, decide_eq_true_eq]
  constructor
  · rintro ⟨⟨⟨⟨⟨⟨⟨⟨h1, h2⟩, h3⟩, h4⟩, h5⟩, h6⟩, h7, h7'⟩, h8⟩, h9⟩
    exact ⟨⟨⟨h2, h3⟩, h1⟩, ⟨⟨h5, h6⟩, h4⟩, h7, h7', h8, h9⟩
  · rintro ⟨⟨⟨h2, h3⟩, h1⟩, ⟨⟨h5, h6⟩, h4⟩, h7, h7', h8, h9⟩
    exact ⟨⟨⟨⟨⟨⟨⟨⟨h1, h2⟩, h3⟩, h4⟩, h5⟩, h6⟩, h7, h7'⟩, h8⟩, h9⟩

set_option maxHeartbeats 8000000 in
set_option maxRecDepth 1000000 in
theorem refcheck_real : RefCheckSpec theR := by
  intro P v w r hFew hP hr
  rw [check_ref] at hr
  obtain ⟨⟨zs, hz⟩, ⟨fs, hf⟩, hd⟩ := hP
  obtain ⟨za, zc, fa, fc, da, dc⟩ := v
  dsimp only at hz hf hd
  simp only [Pv.val]
  obtain ⟨o1, ho1⟩ : ∃ o1 : Obj, o1 = .cells #[.slice za P.zones.length zc, .slice fa P.fates.length fc, .int .i64 P.ticks, .slice da P.drops.length dc] 26 := ⟨_, rfl⟩
  have HB := Lib.hid (below1 w o1)
  have HL := Lib.hid (laid1 w o1)
  have HCz := Lib.hid (refzones_any zs P.zones P.zones.length rfl (by have := hFew.2.1; omega) za zc (w.alloc o1) (hz.below zoP_steady (below1 w o1)) (fun z hz => by have := (hFew.1 z hz).1; omega))
  have HF := Lib.hid (hf.below foP_steady (below1 w o1))
  have HD := Lib.hid (hd.below (below1 w o1))
  have hdl : (P.drops.length : Int) ≤ 9223372036854775807 := len_intC _ (Nat.le_trans hd.1 hd.2.1)
  have hfl : P.fates.length ≤ 100000 := by have := hFew.2.2; omega
  rw [ho1] at HB HL HCz HF HD
  have HR0 := Lib.hid hr
  clear ho1 hz hf hd hFew hr
  obtain ⟨W1, hW1⟩ : ∃ W1, W1 = w.alloc (.cells #[.slice za P.zones.length zc, .slice fa P.fates.length fc, .int .i64 P.ticks, .slice da P.drops.length dc] 26) := ⟨_, rfl⟩
  have hN : w.heap.size < W1.heap.size := by rw [hW1]; simp
  rw [← hW1] at HB HL HCz HF HD
  have HX := Lib.hid (show ∀ W : World, Below W1.heap.size W1 W → _ from fun W hb => (box4 ((hb.block w.heap.size hN).trans HL.out)).1)
  go_enter Tryz.func23, Tryz.ntmps23
  go_upto_region 1 with fail
  rw [← hW1]
  clear hW1
  obtain ⟨x0, x1, x2, x3⟩ := HX.out _ (Below.refl _ _)
  go_wp2_with fail
  with_reducible refine HCz.out.mono ?_
  rintro e w2 ⟨rfl, hb2⟩
  have HB2 := Lib.hid hb2
  clear x0 x1 x2 x3 hb2 HCz
  obtain ⟨x0, x1, x2, x3⟩ := HX.out _ HB2.out
  have HBw2 := Lib.hid (HB.out.trans (HB2.out.mono HB.out.size))
  cases hq : zonesB P.zones
  · obtain rfl : r = 90 := by rw [HR0.out, hq]; rfl
    clear hq
    go_wp2_with fail
    go_ret
    exact ⟨rfl, HBw2.out⟩
  · have HCf := Lib.hid (reffates_any fs P.fates P.fates.length rfl hfl fa fc w2 (HF.out.below foP_steady HB2.out))
    go_wp2_with fail
    with_reducible refine HCf.out.mono ?_
    rintro e w3 ⟨rfl, hb3⟩
    have HB3 := Lib.hid (HB2.out.trans (hb3.mono HB2.out.size))
    clear x0 x1 x2 x3 hb3 HCf
    obtain ⟨x0, x1, x2, x3⟩ := HX.out _ HB3.out
    have HBw3 := Lib.hid (HB.out.trans (HB3.out.mono HB.out.size))
    cases hq2 : fatesB P.fates
    · obtain rfl : r = 90 := by rw [HR0.out, hq, hq2]; rfl
      clear hq hq2
      go_wp2_with fail
      go_ret
      exact ⟨rfl, HBw3.out⟩
    · have HR1 := Lib.hid (show r = if (decide (0 ≤ P.ticks) && (decide (P.ticks ≤ 200) && (decide (P.drops.length ≤ 16) && P.drops.all (fun d => decide (0 ≤ d))))) = true then 0 else 90 by rw [HR0.out, hq, hq2]; rfl)
      clear hq hq2 HR0
      by_cases ht : P.ticks < 0
      · obtain rfl : r = 90 := by rw [HR1.out, decide_eq_false (show ¬ 0 ≤ P.ticks by omega)]; rfl
        go_wp2_with fail
        go_ret
        exact ⟨rfl, HBw3.out⟩
      · by_cases ht2 : 200 < P.ticks
        · obtain rfl : r = 90 := by rw [HR1.out, decide_eq_false (show ¬ P.ticks ≤ 200 by omega), Bool.false_and, Bool.and_false]; rfl
          go_wp2_with fail
          go_ret
          exact ⟨rfl, HBw3.out⟩
        · by_cases h16 : P.drops.length ≤ 16
          · have h16i : ¬ (16 : Int) < (P.drops.length : Int) := by omega
            have HRr := Lib.hid (show r = if P.drops.all (fun d => decide (0 ≤ d)) = true then 0 else 90 by rw [HR1.out, decide_eq_true (show 0 ≤ P.ticks by omega), decide_eq_true (show P.ticks ≤ 200 by omega), decide_eq_true h16]; rfl)
            go_wp2_with fail
            go_loopw [3] (fun u wr => ∃ k : Nat, u = .int .i64 k ∧ k ≤ P.drops.length ∧ Hid (NoneTo (fun d : Int => !decide (0 ≤ d)) P.drops k) ∧ w3 = wr) (fun u _ => P.drops.length - (intOf u).toNat)
            case atStart => exact ⟨0, rfl, by omega, Lib.hid (noneTo_zero _ _), by first | rfl | trivial⟩
            case round =>
              obtain ⟨k, rfl, hk, hno, rfl⟩ := hrel
              have HNk := Lib.hid hno.out
              clear hno
              by_cases hki : k < P.drops.length
              · obtain ⟨y, hy⟩ : ∃ y, P.drops[k]? = some y := ⟨_, List.getElem?_eq_getElem hki⟩
                obtain ⟨b, o, rfl, hbl, hat⟩ := (HD.out.below HB3.out).2.2.2 (by omega)
                have y0 := IK.one hat hy
                have HY := Lib.hid hy
                have hkk : (k : Int) < (P.drops.length : Int) := by omega
                clear hy hat
                by_cases hneg : y < 0
                · go_wp2_with fail
                  go_ret
                  exact ⟨by rw [HRr.out, all_falseC HY.out (by simp; omega)]; rfl, HBw3.out⟩
                · go_wp2_with fail
                  go_roundw
                  case rel => exact ⟨k + 1, by go_num, by omega, Lib.hid (noneTo_step HNk.out HY.out (by simp; omega)), by first | rfl | trivial⟩
                  case measure => simp [intOf]; omega
              · obtain rfl : k = P.drops.length := by omega
                have HA := Lib.hid (all_trueC HNk.out)
                go_wp2_with fail
                go_ret
                exact ⟨by rw [HRr.out, HA.out]; rfl, HBw3.out⟩
          · have h16i : (16 : Int) < (P.drops.length : Int) := by omega
            obtain rfl : r = 90 := by rw [HR1.out, decide_eq_false h16, Bool.false_and, Bool.and_false, Bool.and_false]; rfl
            go_wp2_with fail
            go_ret
            exact ⟨rfl, HBw3.out⟩
end Go.Proofs.YtciohjgcndgiaaaGreat

