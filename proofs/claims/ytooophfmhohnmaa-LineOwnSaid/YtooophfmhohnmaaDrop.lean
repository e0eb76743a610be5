/- Drop: a row gone over once. -/
import Derived.Test.YtooophfmhohnmaaPush
import Derived.Test.YtooophfmhohnmaaTimes
set_option linter.unusedSimpArgs false
set_option linter.unusedVariables false
namespace Go.Proofs.Ytooophfmhohnmaa
open Go.RowKit Go.Maps

theorem Dst.grown {w w' : World} {base b : Nat} {v : Value} {l : List Int} (h : Dst w base v l) (hg : w.grownBy w' (some b)) (hb : b < base) : Dst w' base v l := by
  rcases h with h | h
  · refine .inl (h.kept hg ?_)
    cases e : v.ownBlock with
    | none => exact .inl rfl
    | some k => refine .inr ?_; have := (h.lt k e).1; intro e2; injection e2 with e2; omega
  · exact .inr h
theorem P.keep_hit (x : Int) (l m : List Int) (h : x ∈ m) : P.keep (x :: l) m = P.keep l (m.erase x) := by rw [P.keep, if_pos h]
theorem P.keep_miss (x : Int) (l m : List Int) (h : x ∉ m) : P.keep (x :: l) m = x :: P.keep l m := by rw [P.keep, if_neg h]
theorem P.keep_nil (m : List Int) : P.keep [] m = [] := rfl

set_option maxHeartbeats 8000000 in
set_option maxRecDepth 1000000 in
theorem drop_any (l n L : List Int) (gn : Nat) (hL : L = P.keep l n) (hgn : gn + L.length = l.length) (a b : Option Addr) (c d : Nat) (w : World) (hl : l.length ≤ 100000) (hn : n.length ≤ 100000) (hI : ∀ x ∈ l, I64 x) (hJ : ∀ x ∈ n, I64 x) (hA : RowC w a c l) (hB : RowC w b d n) :
    Calls Try.prog 15 #[.slice a l.length c, .slice b n.length d] w fun e w' => ∃ a' c', e = .returned (.tuple #[.slice a' L.length c', .int .i64 gn]) ∧ MineC w' w.heap.size a' c' L ∧ Below w.heap.size w w' := by
  have HT := Lib.hid (times_any n b d w hn hJ hB)
  have HA := Lib.hid hA
  have HI := Lib.hid hI
  have HL := Lib.hid hL
  have HG := Lib.hid hgn
  clear hA hB hI hJ hL hgn
  go_enter Try.func15, Try.ntmps15
  go_wp2_with fail
  go_step3
  go_wp2_with fail
  refine HT.out.mono ?_
  rintro e w1 ⟨rfl, hM1, hB1, hlt1⟩
  have HM1 := Lib.hid hM1
  have HB1 := Lib.hid hB1
  clear hM1 hB1 HT
  go_wp2_with fail
  go_step3
  go_wp2_with fail
  go_loopw [4, 5, 13] (fun u4 u5 u13 wr => ∃ (k g : Nat) (m R : List Int), u13 = .int .i64 k ∧ k ≤ l.length ∧ u5 = .int .i64 g ∧ g + m.length = n.length ∧ R.length + g = k ∧ MapC wr w.heap.size (n.length + k) m ∧ Dst wr w1.heap.size u4 R ∧ Below w.heap.size w wr ∧ w1.heap.size ≤ wr.heap.size ∧ Hid (R ++ P.keep (l.drop k) m = P.keep l n)) (fun _ _ u _ => l.length - (intOf u).toNat)
  case atStart => exact ⟨0, 0, n, [], rfl, by omega, rfl, by omega, rfl, HM1.out, dst_nil _ _, HB1.out, Nat.le_refl _, Lib.hid rfl⟩
  case round =>
    obtain ⟨k, g, m, R, rfl, hk, rfl, hgm, hRg, hM, hD, hbw, hws, hF⟩ := hrel
    have HF := Lib.hid hF.out
    have hbs := hbw.size
    clear hF
    by_cases hlt : k < l.length
    · have hcl := HA.out.1
      obtain ⟨bl, o, rfl, hb, hat⟩ := (HA.out.2.2.2.below hbw) (by omega)
      obtain ⟨x, hx⟩ : ∃ x, l[k]? = some x := ⟨_, List.getElem?_eq_getElem hlt⟩
      have hc := hat k x hx
      have HX := Lib.hid (P.drop_at l k x hx)
      have HI1 := Lib.hid (HI.out x (List.mem_of_getElem? hx))
      have HK := Lib.hid (key_of HI1.out)
      clear hat hx
      by_cases hg : g = n.length
      · have hg1 : ((g : Int) == (n.length : Int)) = true := by simp [hg]
        obtain rfl : m = [] := List.length_eq_zero_iff.1 (by omega)
        have HR := Lib.hid (show L = R ++ l.drop k by rw [HL.out, ← HF.out, P.keep_none])
        have HN := Lib.hid (show L.length = R.length + (l.length - k) by rw [HR.out]; simp)
        have hgn : gn = g := by have := HG.out; rw [HN.out] at this; omega
        have HS := Lib.hid ((HA.out.below hbw).drop (a' := some ⟨bl, o + k, none⟩) k (by omega) (by rw [if_neg (by omega)]; simp [add_at]))
        have HD := Lib.hid hD
        have hk0 : (0 : Int) ≤ (k : Int) := by omega
        have hk1 : (k : Int) ≤ (l.length : Int) := by omega
        have hck : ¬ c = k := by omega
        clear hM hD hg HI1 HK
        have HLn := Lib.hid (show l.length - k = (l.drop k).length by simp)
        go_upto_region 12 with (at_builtin; refine wpList_append_ints rfl _ _ rfl w1.heap.size _ rfl R HD.out (some ⟨bl, o + k, none⟩) (l.length - k) (c - k) rfl (l.drop k) HLn.out HS.out (by rw [← HLn.out]; omega) hws ?_; intro a2 c2 w2 hD2 hM2 hB2)
        have HM2 := Lib.hid (hM2.mono (Nat.le_of_lt hlt1))
        have HB2 := Lib.hid (hbw.trans (hB2.mono (Nat.le_of_lt hlt1)))
        rw [← HR.out] at HM2
        rw [← HN.out]
        have hc2 := HM2.out.1
        have hc3 := HM2.out.2.1
        unfold maxLen at hc3
        have hL2 : L.length ≤ 100000 := by rw [HN.out]; omega
        clear hD2 hM2 hB2 HN HR
        go_wp2_with fail
        try rw [Exit.noGoto_ret]
        go_ret2
        exact ⟨a2, L.length, by rw [hgn]; rfl, HM2.out.cut rfl, HB2.out⟩
      · have hg1 : ((g : Int) == (n.length : Int)) = false := by rw [beq_eq_false_iff_ne]; omega
        obtain ⟨D, hown, hDm, hcnt⟩ := hM
        obtain ⟨q, hq⟩ : ∃ q : Nat, m.count x = q := ⟨_, rfl⟩
        have hqk : q ≤ 100000 := by have := List.count_le_length (a := x) (l := m); omega
        have HC := Lib.hid (hcnt x)
        rw [hq] at HC
        have HQ := Lib.hid hq
        have HO := Lib.hid hown
        have HDm := Lib.hid hDm
        have HCN := Lib.hid hcnt
        have HD := Lib.hid hD
        have hgn := hg
        clear hown hDm hcnt hq hD hg
        by_cases hq0 : 0 < q
        · have hq1 : (0 : Int) < (q : Int) := by omega
          have HXm := Lib.hid (List.count_pos_iff.1 (by rw [HQ.out]; exact hq0 : 0 < m.count x))
          go_wp2_with (first
            | (at_lookup; refine wpList_lookup_own_int _ rfl _ _ 37 rfl 3 3 .i64 lawK Try.underlying37 Try.underlying3 (zeroI _) w.heap.size (n.length + k) _ rfl HO.out _ _ rfl HK.out ?_; intro cc hat hwc; obtain rfl := at_is hat HC.out; clear hat hwc)
            | (at_mapUpdate; refine wpList_mapUpdate_own _ rfl _ _ _ 37 rfl 3 3 lawK Try.underlying37 _ w.heap.size (n.length + k) _ rfl HO.out (by unfold maxLen; omega) _ _ _ rfl rfl HK.out _ [] (plainElem_int Try.underlying3 (wf_of (by unfold I64; omega))) ?_; intro w2 hown2 hgrow2))
          go_roundw
          case rel =>
            have hs2 := hgrow2.size
            refine ⟨k + 1, g + 1, m.erase x, R, by go_num, by omega, by go_num, ?_, by omega, ?_, HD.out.grown hgrow2 hlt1, hbw.grown hgrow2 hbw.size (fun j hj => by cases hj; exact Nat.le_refl _), by omega, Lib.hid ?_⟩
            · have h1 := List.length_erase_of_mem HXm.out
              have h2 : 0 < m.length := List.length_pos_of_mem HXm.out
              omega
            · rw [← Nat.add_assoc]
              refine mapC_put hown2 HDm.out HCN.out ?_ ?_
              · rw [List.count_erase_self, HQ.out]; omega
              · intro y hy
                rw [List.count_erase_of_ne hy]
            · rw [← HF.out, HX.out, P.keep_hit _ _ _ HXm.out]
          case measure => simp [intOf]; omega
        · obtain rfl : q = 0 := by omega
          have HXm := Lib.hid (show x ∉ m from fun h => by have := List.count_pos_iff.2 h; rw [HQ.out] at this; omega)
          have HD2 := Lib.hid (HD.out.below ((Below.refl wr.heap.size wr).alloc (Nat.le_refl _) (.cells #[.int .i64 x] 3)) (Nat.le_refl _))
          rw [show ((0 : Nat) : Int) = 0 from rfl] at HC
          go_wp2_with (first
            | (at_lookup; refine wpList_lookup_own_int _ rfl _ _ 37 rfl 3 3 .i64 lawK Try.underlying37 Try.underlying3 (zeroI _) w.heap.size (n.length + k) _ rfl HO.out _ _ rfl HK.out ?_; intro cc hat hwc; obtain rfl := at_is hat HC.out; clear hat hwc)
            | (at_builtin; refine wpList_append_ints rfl _ _ rfl w1.heap.size _ rfl R HD2.out (some ⟨wr.heap.size, 0, none⟩) 1 1 rfl [x] rfl (rowC_at wr _ [x] _ _ _ rfl rfl rfl (by simp)) (by simp only [List.length_singleton]; omega) (by simp; omega) ?_; intro a2 c2 w2 hD2 hM2 hB2))
          go_roundw
          case rel =>
            have hs2 := hB2.size
            have HM2 : Hid (MapC wr w.heap.size (n.length + k) m) := Lib.hid ⟨D, HO.out, HDm.out, HCN.out⟩
            refine ⟨k + 1, g, m, R ++ [x], by go_num, by omega, rfl, hgm, by simp; omega, ?_, by simpa using hD2, ((hbw.alloc hbs _).trans (hB2.mono (Nat.le_of_lt hlt1))), by simp at hs2; omega, Lib.hid ?_⟩
            · have h3 := MapC.below HM2.out (((Below.refl wr.heap.size wr).alloc (Nat.le_refl _) (.cells #[.int .i64 x] 3)).mono hws |>.trans hB2) hlt1
              obtain ⟨D3, h4, h5⟩ := h3
              exact ⟨D3, h4.mono (by omega), h5⟩
            · rw [← HF.out, HX.out, P.keep_miss _ _ _ HXm.out]; simp
          case measure => simp [intOf]; omega
    · obtain rfl : k = l.length := by omega
      have h := HF.out
      rw [List.drop_length, P.keep_nil, List.append_nil, ← HL.out] at h
      subst h
      have hgn : gn = g := by have := HG.out; omega
      obtain ⟨a2, c2, rfl, hM2⟩ := hD.mine
      have HM2 := Lib.hid (hM2.mono (Nat.le_of_lt hlt1))
      have hc2 := HM2.out.1
      have hc3 := HM2.out.2.1
      unfold maxLen at hc3
      have hL2 : R.length ≤ 100000 := by omega
      clear hM hD hM2 HF HL
      go_wp2_with fail
      try rw [Exit.noGoto_ret]
      go_ret2
      exact ⟨a2, R.length, by rw [hgn]; rfl, HM2.out.cut rfl, hbw⟩
end Go.Proofs.Ytooophfmhohnmaa
