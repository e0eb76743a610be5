/- LabelParts: the walk. -/
import Derived.Test.YtpeohgmceadmeaaFoldLaw
import Derived.Test.YtpeohgmceadmeaaSame
namespace Go.Proofs.Ytpeohgmceadmeaa
open Go.RowKit

set_option maxHeartbeats 8000000 in
set_option maxRecDepth 1000000 in
theorem parts_wakes (a : ByteArray) (w : World) (h : 2000 < a.size) (wa : a.size ≤ maxLen) :
    Calls Try.prog 4 #[.string a] w fun e w' => e = .returned (.bool true) ∧ Below w.heap.size w w' := by
  unfold maxLen at wa
  go_enter Try.func4, Try.ntmps4
  go_wp2_with fail
  refine (wakes_any _).mono ?_
  rintro e w1 ⟨rfl, hb1⟩
  go_wp2_with fail
  go_ret
  exact ⟨rfl, hb1⟩

set_option maxHeartbeats 8000000 in
set_option maxRecDepth 1000000 in
theorem parts_no (a : ByteArray) (w : World) (ha : a.size ≤ 2000) (hn : P.name a.data.toList = false) :
    Calls Try.prog 4 #[.string a] w fun e w' => e = .returned (.bool true) ∧ Below w.heap.size w w' := by
  have HP := Lib.hid (show P.parts a.data.toList = [] by rw [P.parts, hn]; rfl)
  have HN := Lib.hid hn
  clear hn
  go_enter Try.func4, Try.ntmps4
  go_wp2_with fail
  refine (parts_any a _ (by omega)).mono ?_
  rw [HP.out]
  rintro e w1 ⟨v, rfl, ho, hb1⟩
  obtain ⟨x, c, rfl⟩ := row_form ho
  clear ho
  rw [show (([] : List (List UInt8)).length) = 0 from rfl]
  go_wp2_with fail
  refine (valid_one a _ _ (by omega) (by simp) (by simp [go_sem])).mono ?_
  rw [HN.out]
  rintro e w5 ⟨rfl, hb5⟩
  have hb5 := (hb1.alloc hb1.size _).trans (hb5.mono (by have := hb1.size; simp; omega))
  clear hb1
  go_wp2_with fail
  refine (wakes_any _).mono ?_
  rintro e w7 ⟨rfl, hb7⟩
  have hb7 := hb5.trans (hb7.mono hb5.size)
  clear hb5
  go_wp2_with fail
  go_ret
  exact ⟨rfl, hb7⟩

/-- The look at each part, once the two rows lie there. -/
def Rows2 (ps : List (List UInt8)) (g g' : Nat) (w : World) : Prop :=
  g < w.heap.size ∧ g' < w.heap.size ∧ ∀ j, (h : j < ps.length) → w.cell? ⟨g, j, none⟩ = some (.string ⟨(ps[j]).toArray⟩) ∧ w.cell? ⟨g', j, none⟩ = some (.string ⟨(P.foldB ps[j]).toArray⟩)
theorem Rows2.below {ps : List (List UInt8)} {g g' : Nat} {w w' : World} (h : Rows2 ps g g' w) (hb : Below w.heap.size w w') : Rows2 ps g g' w' := by
  obtain ⟨h1, h2, h3⟩ := h
  have hs := hb.size
  exact ⟨by omega, by omega, fun j hj => ⟨by rw [hb.cell (p := ⟨g, j, none⟩) h1]; exact (h3 j hj).1, by rw [hb.cell (p := ⟨g', j, none⟩) h2]; exact (h3 j hj).2⟩⟩
theorem glue (A p : List UInt8) : (⟨A.toArray⟩ : ByteArray) ++ ⟨#[46]⟩ ++ ⟨p.toArray⟩ = ⟨(A ++ 46 :: p).toArray⟩ := by
  apply ByteArray.ext
  apply Array.ext'
  simp
theorem glue0 (p : List UInt8) : (⟨#[]⟩ : ByteArray) ++ ⟨p.toArray⟩ = ⟨p.toArray⟩ := by
  apply ByteArray.ext
  apply Array.ext'
  simp

set_option maxHeartbeats 8000000 in
set_option maxRecDepth 1000000 in
theorem parts_yes (a : ByteArray) (w : World) (ha : a.size ≤ 2000) (hn : P.name a.data.toList = true) :
    Calls Try.prog 4 #[.string a] w fun e w' => e = .returned (.bool true) ∧ Below w.heap.size w w' := by
  obtain ⟨ps, hps⟩ : ∃ ps, P.splitDot a.data.toList = ps := ⟨_, rfl⟩
  obtain ⟨hl64, hvr⟩ := name_valid _ hn
  have hfold := P.fold_name _ hn
  have hpa : P.parts a.data.toList = ps := by rw [P.parts, hn, hps]; rfl
  have hpf : P.parts (P.foldB a.data.toList) = ps.map P.foldB := by rw [P.parts, hfold.1, if_pos rfl, P.split_fold _ hvr, hps]
  have hne : ps ≠ [] := by rw [← hps]; exact P.splitDot_ne _
  have hlen : 1 ≤ ps.length ∧ ps.length ≤ 65 := by
    have h1 := P.split_length a.data.toList
    rw [hps] at h1
    have h2 : ps.length ≠ 0 := fun h => hne (List.length_eq_zero_iff.1 h)
    omega
  obtain ⟨hlen1, hlen2⟩ := hlen
  have hpn : ∀ p ∈ ps, P.name p = true ∧ p.length ≤ 64 := by
    intro p hp
    rw [← hps] at hp
    have h1 := P.valid_parts _ hvr p hp
    have h2 : p.length ≤ 64 := by omega
    exact ⟨by rw [P.name, decide_eq_true h2, Bool.true_and]; exact h1.1, h2⟩
  have hj1 : P.joinD ps = a.data.toList := by rw [← hps]; exact P.join_split _
  have hj2 : P.joinD (ps.map P.foldB) = P.foldB a.data.toList := by rw [← hps, ← P.split_fold _ hvr]; exact P.join_split _
  have HN := Lib.hid hn
  have HPA := Lib.hid hpa
  have HPF := Lib.hid hpf
  have HPN := Lib.hid hpn
  have HJ := Lib.hid (And.intro hj1 hj2)
  have hfs : (P.foldB a.data.toList).length ≤ 64 := by rw [hfold.2.1]; exact hl64
  have HFS := Lib.hid hfs
  clear hn hps hl64 hvr hfold hpa hpf hne hpn hj1 hj2 hfs
  generalize hF : (⟨(P.foldB a.data.toList).toArray⟩ : ByteArray) = F at *
  have hFd : F.data.toList = P.foldB a.data.toList := by rw [← hF]
  have hFs : F.size ≤ 64 := by rw [← hF, size_of_list]; exact HFS.out
  have HFD := Lib.hid (And.intro hF hFd)
  clear hF hFd
  go_enter Try.func4, Try.ntmps4
  go_wp2_with fail
  refine (parts_any a _ (by omega)).mono ?_
  rw [HPA.out]
  rintro e w1 ⟨v, rfl, ho, hb1⟩
  obtain ⟨g, c, rfl, hg1, hg2, hg3⟩ := row_cell ho (by omega)
  have HG := Lib.hid hg3
  clear ho hg3
  go_wp2_with fail
  refine (valid_one a _ _ (by omega) (by simp) (by simp [go_sem])).mono ?_
  rw [HN.out]
  rintro e w2 ⟨rfl, hb2⟩
  have hc2 := (hb1.alloc hb1.size _).trans (hb2.mono (by have := hb1.size; simp; omega))
  have hd2 : Below w1.heap.size w1 w2 := ((Below.refl _ w1).alloc (Nat.le_refl _) _).trans (hb2.mono (by simp))
  clear hb2
  go_wp2_with fail
  have HFY := fold_yes a w2 (by omega) HN.out
  rw [HFD.out.1] at HFY
  with_reducible refine HFY.mono ?_
  clear HFY
  rintro e w3 ⟨rfl, hb3⟩
  have hc3 := hc2.trans (hb3.mono hc2.size)
  have hd3 := hd2.trans (hb3.mono hd2.size)
  clear hb3 hc2 hd2
  go_wp2_with fail
  refine (parts_any F _ (by omega)).mono ?_
  rw [HFD.out.2, HPF.out, List.length_map]
  rintro e w4 ⟨v', rfl, ho', hb4⟩
  obtain ⟨g', c', rfl, hg1', hg2', hg3'⟩ := row_cell ho' (by omega)
  have hc4 := hc3.trans (hb4.mono hc3.size)
  have hd4 := hd3.trans (hb4.mono hd3.size)
  have HR : Rows2 ps g g' w4 := by
    have hs := hd4.size
    refine ⟨by omega, hg2', fun j hj => ⟨?_, ?_⟩⟩
    · rw [hd4.cell (p := ⟨g, j, none⟩) hg2, HG.out j hj]; simp [P.strs, hj]
    · rw [hg3' j hj]; simp [P.strs, hj]
  have HR := Lib.hid HR
  clear ho' hg3' hb4 hc3 hd3 hd4 hb1 hg1 hg2 hg1' hg2' HG
  have hlb : ((ps.length : Int) == 0) = false := by rw [beq_eq_false_iff_ne]; omega
  go_wp2_with fail
  go_loopg [7, 8, 9] ps.length (fun gg A B i wr => ∃ (k : Nat) (A' B' : ByteArray), k + gg = ps.length ∧ A = .string A' ∧ B = .string B' ∧ i = .int .i64 k ∧ A'.size ≤ 70 * k ∧ B'.size ≤ 70 * k ∧ Below w4.heap.size w4 wr ∧ Hid (A' = ⟨(P.joinD (ps.take k)).toArray⟩ ∧ B' = ⟨(P.joinD ((ps.map P.foldB).take k)).toArray⟩))
  case atStart => exact ⟨0, ⟨#[]⟩, ⟨#[]⟩, by omega, rfl, rfl, rfl, Nat.le_refl 0, Nat.le_refl 0, Below.refl _ _, Lib.hid ⟨by simp [P.joinD], by simp [P.joinD]⟩⟩
  case round =>
    obtain ⟨k, A, B, hkg, rfl, rfl, rfl, hsA, hsB, hbw, hAB⟩ := hrel
    have hbs := hbw.size
    have hwl := hc4.size
    by_cases hk : k < ps.length
    · have HR2 := HR.out.below hbw
      obtain ⟨hgl, hgl', hcc⟩ := HR2
      obtain ⟨hx1, hx2⟩ := hcc k hk
      have hnp := HPN.out ps[k] (List.getElem_mem hk)
      have hj1 := P.join_take ps k hk
      have hj2 := P.join_take (ps.map P.foldB) k (by simpa using hk)
      rw [List.getElem_map] at hj2
      obtain ⟨hA, hB⟩ := hAB.out
      generalize hpk : ps[k] = p at hx1 hx2 hnp hj1 hj2
      clear hpk hcc hAB
      have hps : (⟨p.toArray⟩ : ByteArray).size ≤ 4000 := by rw [size_of_list]; omega
      have hpd : (⟨p.toArray⟩ : ByteArray).data.toList = p := rfl
      have HFP : Hid (∀ w, Calls Try.prog 7 #[.string ⟨p.toArray⟩] w fun e w' => e = .returned (.tuple #[.string ⟨(P.foldB p).toArray⟩, .int .i64 0]) ∧ Below w.heap.size w w') := Lib.hid (fun w => fold_yes ⟨p.toArray⟩ w hps hnp.1)
      have HVP : Hid (∀ (bk : Nat) (w : World), bk < w.heap.size → w.cell? ⟨bk, 0, none⟩ = some (.string ⟨p.toArray⟩) → Calls Try.prog 11 #[.slice (some ⟨bk, 0, none⟩) 1 1] w fun e w' => e = .returned (.bool true) ∧ Below w.heap.size w w') := Lib.hid (fun bk w hbk hc => (valid_one ⟨p.toArray⟩ bk w hps hbk hc).mono fun e w' ⟨he, hb⟩ => ⟨by rw [he]; show Ending.returned (.bool (P.name p)) = _; rw [hnp.1], hb⟩)
      have HJJ : Hid ((if k = 0 then (⟨p.toArray⟩ : ByteArray) else A ++ ⟨#[46]⟩ ++ ⟨p.toArray⟩) = ⟨(P.joinD (ps.take (k + 1))).toArray⟩ ∧ (if k = 0 then (⟨(P.foldB p).toArray⟩ : ByteArray) else B ++ ⟨#[46]⟩ ++ ⟨(P.foldB p).toArray⟩) = ⟨(P.joinD ((ps.map P.foldB).take (k + 1))).toArray⟩) := Lib.hid (by
        rw [hj1, hj2, hA, hB]
        by_cases h0 : k = 0
        · simp [h0]
        · rw [if_neg h0, if_neg h0, if_neg h0, if_neg h0, glue, glue]; exact ⟨rfl, rfl⟩)
      have HA0 : Hid (k = 0 → A = ⟨#[]⟩ ∧ B = ⟨#[]⟩) := Lib.hid (fun h0 => by rw [hA, hB, h0]; simp [P.joinD])
      have hsz : (⟨p.toArray⟩ : ByteArray).size ≤ 64 ∧ (⟨(P.foldB p).toArray⟩ : ByteArray).size ≤ 64 := by
        rw [size_of_list, size_of_list, (P.fold_name p hnp.1).2.1]; omega
      clear hA hB hj1 hj2 hnp hpd hps
      generalize hX : (⟨p.toArray⟩ : ByteArray) = X at *
      generalize hY : (⟨(P.foldB p).toArray⟩ : ByteArray) = Y at *
      clear hX hY
      rcases Nat.eq_zero_or_pos k with h0 | h0
      · obtain ⟨rfl, rfl⟩ := HA0.out h0
        subst h0
        go_wp2_with fail
        have HC := HFP.out wr
        with_reducible refine HC.mono ?_
        clear HC
        rintro e w5 ⟨rfl, hb5⟩
        have hx1' : w5.cell? ⟨g, 0, none⟩ = some (.string X) := by rw [hb5.cell (p := ⟨g, 0, none⟩) hgl]; exact hx1
        have hx2' : w5.cell? ⟨g', 0, none⟩ = some (.string Y) := by rw [hb5.cell (p := ⟨g', 0, none⟩) hgl']; exact hx2
        have hs5 := hb5.size
        have hbw5 := hbw.trans (hb5.mono hbs)
        go_wp2_with fail
        have HC := HVP.out w5.heap.size (w5.alloc (.cells #[.string X] 9)) (by simp) (by simp [go_sem])
        with_reducible refine HC.mono ?_
        clear HC
        rintro e w6 ⟨rfl, hb6⟩
        have hb6' : Below w5.heap.size w5 w6 := ((Below.refl _ w5).alloc (Nat.le_refl _) _).trans (hb6.mono (by simp))
        have hx1'' : w6.cell? ⟨g, 0, none⟩ = some (.string X) := by rw [hb6'.cell (p := ⟨g, 0, none⟩) (by show g < _; omega)]; exact hx1'
        have hbw6 := hbw5.trans (hb6'.mono hbw5.size)
        clear hx1 hx2 hx1' hx2'
        go_wp2_with fail
        go_roundg (ps.length - 1)
        case rel => exact ⟨1, _, _, by omega, rfl, rfl, rfl, by simp; omega, by simp; omega, hbw6, Lib.hid (by have h := HJJ.out; simp only [if_true] at h; exact h)⟩
        case measure => omega
      · have HJ2 : Hid (A ++ ⟨#[46]⟩ ++ X = ⟨(P.joinD (ps.take (k + 1))).toArray⟩ ∧ B ++ ⟨#[46]⟩ ++ Y = ⟨(P.joinD ((ps.map P.foldB).take (k + 1))).toArray⟩) := Lib.hid (by
          have h := HJJ.out
          rw [if_neg (by omega), if_neg (by omega)] at h; exact h)
        clear HJJ HA0
        go_wp2_with fail
        have HC := HFP.out wr
        with_reducible refine HC.mono ?_
        clear HC
        rintro e w5 ⟨rfl, hb5⟩
        have hx1' : w5.cell? ⟨g, k, none⟩ = some (.string X) := by rw [hb5.cell (p := ⟨g, k, none⟩) hgl]; exact hx1
        have hx2' : w5.cell? ⟨g', k, none⟩ = some (.string Y) := by rw [hb5.cell (p := ⟨g', k, none⟩) hgl']; exact hx2
        have hs5 := hb5.size
        have hbw5 := hbw.trans (hb5.mono hbs)
        go_wp2_with fail
        have HC := HVP.out w5.heap.size (w5.alloc (.cells #[.string X] 9)) (by simp) (by simp [go_sem])
        with_reducible refine HC.mono ?_
        clear HC
        rintro e w6 ⟨rfl, hb6⟩
        have hb6' : Below w5.heap.size w5 w6 := ((Below.refl _ w5).alloc (Nat.le_refl _) _).trans (hb6.mono (by simp))
        have hx1'' : w6.cell? ⟨g, k, none⟩ = some (.string X) := by rw [hb6'.cell (p := ⟨g, k, none⟩) (by show g < _; omega)]; exact hx1'
        have hbw6 := hbw5.trans (hb6'.mono hbw5.size)
        clear hx1 hx2 hx1' hx2'
        go_wp2_with fail
        go_roundg (ps.length - (k + 1))
        case rel => exact ⟨k + 1, _, _, by omega, rfl, rfl, by go_num, by simp [show (⟨#[46]⟩ : ByteArray).size = 1 from rfl]; omega, by simp [show (⟨#[46]⟩ : ByteArray).size = 1 from rfl]; omega, hbw6, HJ2⟩
        case measure => omega
    · obtain rfl : k = ps.length := by omega
      obtain ⟨hA, hB⟩ := hAB.out
      rw [List.take_length, HJ.out.1, Lib.mk_data] at hA
      have hB' : B = F := by
        rw [hB, ← List.length_map (f := P.foldB), List.take_length, HJ.out.2]; exact HFD.out.1
      clear hB hAB
      subst hA hB'
      go_wp2_with fail
      refine (wakes_any _).mono ?_
      rintro e w7 ⟨rfl, hb7⟩
      have hb8 := hbw.trans (hb7.mono hbs)
      go_wp2_with fail
      go_ret
      exact ⟨by simp, hc4.trans (hb8.mono hwl)⟩

theorem parts_walk (a : ByteArray) (w : World) (wa : a.size ≤ maxLen) :
    Calls Try.prog 4 #[.string a] w fun e w' => e = .returned (.bool true) ∧ Below w.heap.size w w' := by
  by_cases h : 2000 < a.size
  · exact parts_wakes a w h wa
  · cases hn : P.name a.data.toList
    · exact parts_no a w (by omega) hn
    · exact parts_yes a w (by omega) hn
end Go.Proofs.Ytpeohgmceadmeaa
