/- A plan's answers: the document's own answer, walked. -/
import Derived.Test.YtciohjgcndgiaaaGreatDoorAnswersLaw
set_option linter.unusedSimpArgs false
set_option linter.unusedVariables false
namespace Go.Proofs.YtciohjgcndgiaaaGreatDoor
open Go.RowKit Go.Proofs.YtciohjgcndgiaaaGreatDoor.Kind

theorem eq_text (a b : ByteArray) : (a.toList == b.toList) = decide (a = b) := by
  by_cases h : a = b
  · subst h; simp
  · have hne : a.toList ≠ b.toList := fun e => by
      rw [ByteArray.toList_eq, ByteArray.toList_eq] at e
      exact h (ByteArray.ext (Array.toList_inj.1 e))
    simp [h, hne]
theorem nth_none (n : Int) (w : World) : Calls Tryz.prog 25 #[.int .i64 0, .int .i64 n] w fun e w' => e = .returned (.int .i64 (-1)) ∧ w' = w := by
  go_enter Tryz.func25, Tryz.ntmps25
  go_wp2_with fail
  all_goals
    go_wp2_with fail
    go_ret
    first
      | exact ⟨rfl, rfl⟩
      | (exfalso; rename_i h1 h2; split at h1 <;> omega)
      | (exfalso; omega)
theorem nth_some (m : Nat) (n : Int) (hm : 0 < m) (hm2 : m ≤ 9223372036854775807) (w : World) : Calls Tryz.prog 25 #[.int .i64 m, .int .i64 n] w fun e w' => e = .returned (.int .i64 (nthI n m : Nat)) ∧ w' = w := by
  have hw : IntKind.i64.wrap ((m : Int) - 1) = (m : Int) - 1 := by rw [IntKind.wrap_i64]; omega
  go_enter Tryz.func25, Tryz.ntmps25
  go_wp2_with fail
  all_goals
    go_wp2_with fail
    go_ret
    first
      | (refine ⟨?_, rfl⟩; have e : ((nthI n m : Nat) : Int) = (0 : Int) := (by unfold nthI; omega); rw [e]; rfl)
      | (refine ⟨?_, rfl⟩; have e : ((nthI n m : Nat) : Int) = n := (by unfold nthI; omega); rw [e]; rfl)
      | (refine ⟨?_, rfl⟩; have e : ((nthI n m : Nat) : Int) = (m : Int) - 1 := (by unfold nthI; omega); rw [e]; rfl)
def NoZone (P : Pl) (s : ByteArray) (k : Nat) : Prop := (P.zones.take k).find? (fun z => decide (z.name = s)) = none
theorem noZone_succ {P : Pl} {s : ByteArray} {k : Nat} {z : Zo} (h : NoZone P s k) (hz : P.zones[k]? = some z) (hne : z.name ≠ s) : NoZone P s (k + 1) := by
  unfold NoZone at h ⊢
  rw [List.take_add_one, hz, List.find?_append, h]
  simp [hne]
theorem noZone_all {P : Pl} {s : ByteArray} (h : NoZone P s P.zones.length) : zoneOf P s = none := by
  unfold NoZone at h
  rwa [List.take_length] at h
theorem noZone_yes {P : Pl} {s : ByteArray} {k : Nat} {z : Zo} (h : NoZone P s k) (hz : P.zones[k]? = some z) (he : z.name = s) : zoneOf P s = some z := by
  unfold NoZone at h
  unfold zoneOf
  rw [← List.take_append_drop k P.zones, List.find?_append, h, drop_at _ _ _ hz]
  simp [he]
theorem ans_none {P : Pl} {s : ByteArray} {n : Int} (h : zoneOf P s = none) : answerP P s n = [] ∧ answerE P s n = 110 := by
  have e : answerP P s n = [] := by unfold answerP; rw [h]
  exact ⟨e, by unfold answerE; rw [e]; rfl⟩
theorem ans_empty {P : Pl} {s : ByteArray} {n : Int} {z : Zo} (h : zoneOf P s = some z) (h0 : z.ans.length = 0) : answerP P s n = [] ∧ answerE P s n = 110 := by
  have e : answerP P s n = [] := by unfold answerP; rw [h]; dsimp only; rw [List.eq_nil_of_length_eq_zero h0]; rfl
  exact ⟨e, by unfold answerE; rw [e]; rfl⟩
theorem ans_at {P : Pl} {s : ByteArray} {n : Int} {z : Zo} {l : List Ad} (h : zoneOf P s = some z) (hl : z.ans[nthI n z.ans.length]? = some l) : answerP P s n = l ∧ answerE P s n = if l.length = 0 then 110 else 0 := by
  have e : answerP P s n = l := by unfold answerP; rw [h]; dsimp only; rw [hl]; rfl
  exact ⟨e, by unfold answerE; rw [e]⟩
set_option maxHeartbeats 16000000 in
set_option maxRecDepth 1000000 in
theorem ref_answer : RefAnswerSpec := by
  intro P v s n w L r hM hP hL hr
  have HP := Lib.hid hP
  have HF := Lib.hid hM.fits
  have HL := Lib.hid hL
  have HR := Lib.hid hr
  have hZl : P.zones.length ≤ 9223372036854775807 := by obtain ⟨⟨hs, h1⟩, _⟩ := hP; exact nest_max h1
  clear hP hM hL hr
  obtain ⟨za, zc, fa, fc, da, dc⟩ := v
  simp only [Pv.val]
  go_enter Tryz.func10, Tryz.ntmps10
  go_upto_region 1 with fail
  have hb := below1 w (.cells #[.slice za P.zones.length zc, .slice fa P.fates.length fc, .int .i64 P.ticks, .slice da P.drops.length dc] 26)
  have hl := laid1 w (.cells #[.slice za P.zones.length zc, .slice fa P.fates.length fc, .int .i64 P.ticks, .slice da P.drops.length dc] 26)
  obtain ⟨w1, hw1⟩ : ∃ w1, w1 = w.alloc (.cells #[.slice za P.zones.length zc, .slice fa P.fates.length fc, .int .i64 P.ticks, .slice da P.drops.length dc] 26) := ⟨_, rfl⟩
  rw [← hw1] at hb hl ⊢
  clear hw1
  have HP1 := Lib.hid (HP.out.below hb)
  have HB := Lib.hid hb
  have HLW := Lib.hid (lt_of_block hl)
  obtain ⟨⟨x0, x1, x2, x3⟩, _⟩ := box4 hl
  clear hb hl HP
  go_wp2_with fail
  go_loopw [8] (fun u8 wr => ∃ k : Nat, u8 = .int .i64 k ∧ k ≤ P.zones.length ∧ Hid (NoZone P s k) ∧ w1 = wr) (fun u _ => P.zones.length - (intOf u).toNat)
  case atStart => exact ⟨0, rfl, by omega, Lib.hid (by simp [NoZone]), by first | rfl | trivial⟩
  case round =>
    obtain ⟨k, rfl, hk, HN, rfl⟩ := hrel
    by_cases hlt : k < P.zones.length
    · have hki : (k : Int) < (P.zones.length : Int) := by omega
      have hkw : IntKind.i64.wrap ((k : Int) + 1) = (k : Int) + 1 := by rw [IntKind.wrap_i64]; omega
      obtain ⟨⟨nm, ans⟩, hbk⟩ : ∃ b, P.zones[k]? = some b := ⟨_, List.getElem?_eq_getElem hlt⟩
      obtain ⟨⟨hs1, hz1⟩, _⟩ := HP1.out
      obtain ⟨⟨xn, xa, xl, xc⟩, g1, o1, hx1, e1, hg1, hat1, hn1, hl1, as1, ha1⟩ := hz1.get hbk
      dsimp only at e1 hn1 hl1 ha1
      subst e1 hn1
      obtain ⟨p0, p1⟩ := ZK.two hat1 hx1
      dsimp only at p0 p1
      have HBK := Lib.hid hbk
      have HA1 := Lib.hid ha1
      have HL1 := Lib.hid hl1
      have HG1 := Lib.hid hg1
      have hxl : xl ≤ 9223372036854775807 := by rw [hl1]; exact nest_max ha1
      clear hbk hz1 hx1 hat1 ha1 hg1 hl1
      by_cases he : xn = s
      · have heq : (xn.toList == s.toList) = true := by rw [eq_text]; simp [he]
        have HZ := Lib.hid (noZone_yes HN.out HBK.out he)
        clear he
        by_cases h0 : xl = 0
        · subst h0
          obtain ⟨hq1, hq2⟩ := ans_empty (n := n) HZ.out (by have := HL1.out; dsimp only; omega)
          obtain rfl : L = [] := by rw [HL.out, hq1]
          obtain rfl : r = 110 := by rw [HR.out, hq2]
          have HNt := Lib.hid (fun w => nth_none n w)
          clear hq1 hq2
          go_wp2_with fail
          with_reducible refine (HNt.out _).mono ?_
          rintro e w2 ⟨rfl, rfl⟩
          go_wp2_with fail
          go_ret2
          exact ⟨none, 0, rfl, row_none _, HB.out⟩
        · obtain ⟨l, hl⟩ : ∃ l, ans[nthI n xl]? = some l := ⟨_, List.getElem?_eq_getElem (by have := HL1.out; unfold nthI; omega)⟩
          obtain ⟨hq1, hq2⟩ := ans_at (n := n) HZ.out (show ans[nthI n ans.length]? = some l by rw [← HL1.out]; exact hl)
          have HQ1 := Lib.hid (HL.out.trans hq1)
          have HQ2 := Lib.hid (HR.out.trans hq2)
          have HNt := Lib.hid (fun w => nth_some xl n (by omega) (by omega) w)
          have hix : nthI n xl < xl := by unfold nthI; omega
          have hlf : l.length ≤ 4398046511104 := (HF.out _ (List.mem_of_getElem? HBK.out) l (List.mem_of_getElem? hl)).1
          generalize nthI n xl = ix at *
          obtain ⟨⟨la, ln, lc⟩, m1, r1, hx1, e1, hm1, hat1, hl1, hR1⟩ := HA1.out.get hl
          dsimp only at e1 hl1 hR1
          subst e1
          have y1 := HK.one hat1 hx1
          dsimp only at y1
          have hxi : (ix : Int) < (xl : Int) := by omega
          have HLN := Lib.hid hl1
          have HM1' := Lib.hid hm1
          have HRW := Lib.hid hR1
          clear hq1 hq2 hl hx1 hat1 hm1 hl1 hR1
          by_cases h1 : ln = 0
          · subst h1
            obtain rfl : L = [] := by rw [HQ1.out]; exact List.eq_nil_of_length_eq_zero HLN.out.symm
            obtain rfl : r = 110 := by rw [HQ2.out, if_pos HLN.out.symm]
            go_wp2_with fail
            with_reducible refine (HNt.out _).mono ?_
            rintro e w2 ⟨rfl, rfl⟩
            go_wp2_with fail
            go_ret2
            exact ⟨none, 0, rfl, row_none _, HB.out⟩
          · obtain rfl : r = 0 := by rw [HQ2.out, if_neg (by have := HLN.out; omega)]
            have hn0 : ((ln : Int) == 0) = false := by simp [h1]
            have HLL := Lib.hid (show ln = L.length by rw [HQ1.out]; exact HLN.out)
            have HRL := Lib.hid (show AK.RowC w1 la lc L by rw [HQ1.out]; exact HRW.out)
            have hLf : L.length ≤ 4398046511104 := by rw [HQ1.out]; exact hlf
            clear HRW
            go_wp2_with fail
            with_reducible refine (HNt.out _).mono ?_
            rintro e w2 ⟨rfl, rfl⟩
            have hi0 : decide ((ix : Int) < 0) = false := by simp
            have hfb := below1 w2 (.cells #[] 59)
            have z0 := (hfb.cell (p := ⟨w.heap.size, 0, none⟩) HLW.out).trans x0
            have z1 := (hfb.cell (p := ⟨g1, o1 + k * 2 + 1, none⟩) HG1.out).trans p1
            have z2 := (hfb.cell (p := ⟨m1, r1 + ix, none⟩) HM1'.out).trans y1
            clear hfb
            go_wp2_with (at_builtin; refine AK.wpList_append_rows_b rfl _ _ rfl w2.heap.size (.slice (some ⟨w2.heap.size, 0, none⟩) 0 0) rfl [] (dst_bare _ _ _) la ln lc rfl L HLL.out (HRL.out.below (below1 w2 _)) (by show (([] : List Ad).length + L.length) * 32 ≤ _; simp; omega) (by simp; unfold maxLen; omega) (by simp) ?_; intro a5 c5 w5 hD1 hM1 hB1; rw [List.nil_append] at hM1; have HM1 := Lib.hid hM1.row; have HB1 := Lib.hid (HB.out.trans (((below1 w2 _).trans hB1).mono HB.out.size)); clear hD1 hM1 hB1)
            go_ret2
            exact ⟨a5, c5, rfl, HM1.out, HB1.out⟩
      · have heq : (xn.toList == s.toList) = false := by rw [eq_text]; simp [he]
        have HN2 := Lib.hid (noZone_succ HN.out HBK.out he)
        clear he
        go_wp2_with fail
        go_roundw
        case rel => exact ⟨k + 1, by go_num, by omega, HN2, by first | rfl | trivial⟩
        case measure => simp [intOf]; omega
    · obtain rfl : k = P.zones.length := by omega
      obtain ⟨hq1, hq2⟩ := ans_none (n := n) (noZone_all HN.out)
      obtain rfl : L = [] := by rw [HL.out, hq1]
      obtain rfl : r = 110 := by rw [HR.out, hq2]
      clear hq1 hq2
      go_wp2_with fail
      go_ret2
      exact ⟨none, 0, rfl, row_none _, HB.out⟩
end Go.Proofs.YtciohjgcndgiaaaGreatDoor
