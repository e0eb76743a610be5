/- The document's own Drop. -/
import Derived.Test.YtooophfmhohnmaaPush
import Derived.Test.YtooophfmhohnmaaLook
import Derived.Deep.RegionHeld3
set_option linter.unusedSimpArgs false
set_option linter.unusedVariables false
namespace Go.Proofs.Ytooophfmhohnmaa
open Go.RowKit

theorem P.less_take (l n : List Int) (i : Nat) (x : Int) (h : n[i]? = some x) : P.less l (n.take (i + 1)) = (P.less l (n.take i)).erase x := by rw [P.take_at n i x h, P.less_snoc]

set_option maxHeartbeats 8000000 in
set_option maxRecDepth 1000000 in
theorem rdrop_any (l n L : List Int) (gn : Nat) (hL : L = P.less l n) (hgn : gn + L.length = l.length) (a b : Option Addr) (c d : Nat) (w : World) (hl : l.length ≤ 100000) (hn : n.length ≤ 100000) (hA : RowC w a c l) (hB : RowC w b d n) :
    Calls Try.prog 16 #[.slice a l.length c, .slice b n.length d] w fun e w' => ∃ a' c', e = .returned (.tuple #[.slice a' L.length c', .int .i64 gn]) ∧ MineC w' w.heap.size a' c' L ∧ Below w.heap.size w w' := by
  have HP := Lib.hid (rpush_any [] l l (by simp) none a 0 c w (by simp) hl (row_none _) hA)
  have HB := Lib.hid hB.2.2.2
  have HL := Lib.hid hL
  have HG := Lib.hid hgn
  clear hA hB hL hgn
  rw [List.length_nil] at HP
  go_enter Try.func16, Try.ntmps16
  go_wp2_with fail
  refine HP.out.mono ?_
  rintro e w1 ⟨a1, c1, rfl, hM1, hB1⟩
  have HM1 := Lib.hid hM1
  have HB1 := Lib.hid hB1
  clear hM1 hB1 HP
  go_wp2_with fail
  go_loopw [6, 7, 8] (fun u6 u7 u8 wr => ∃ (i g r : Nat) (R : List Int) (a2 : Option Addr) (c2 : Nat), u8 = .int .i64 i ∧ i ≤ n.length ∧ u7 = .int .i64 g ∧ g + r = l.length ∧ u6 = .slice a2 r c2 ∧ Hid (R.length = r) ∧ MineC wr w.heap.size a2 c2 R ∧ Below w.heap.size w wr ∧ Hid (R = P.less l (n.take i))) (fun _ _ u _ => n.length - (intOf u).toNat)
  case atStart => exact ⟨0, 0, l.length, l, a1, c1, rfl, by omega, rfl, by omega, rfl, Lib.hid rfl, HM1.out, HB1.out, Lib.hid rfl⟩
  case round =>
    obtain ⟨i, g, r, R, a2, c2, rfl, hi, rfl, hgr, rfl, hr, hM, hbw, hR⟩ := hrel
    have HF := Lib.hid hR.out
    have HRr := Lib.hid hr.out
    have HM := Lib.hid hM
    have hbs := hbw.size
    clear hR hr hM
    by_cases hlt : i < n.length
    · obtain ⟨bn, o, rfl, hb, hat⟩ := (HB.out.below hbw) (by omega)
      obtain ⟨x, hx⟩ : ∃ x, n[i]? = some x := ⟨_, List.getElem?_eq_getElem hlt⟩
      have hc := hat i x hx
      have HX := Lib.hid (P.less_take l n i x hx)
      have HPl := Lib.hid (rplace_any R x a2 c2 wr (by rw [HRr.out]; omega) HM.out.row)
      rw [HRr.out] at HPl
      clear hat hx
      rcases P.place_spec R x with ⟨hp, hno⟩ | ⟨p, hpl, hp, hpx, hpf, hpe⟩
      · rw [hp] at HPl
        have HN := Lib.hid (show P.less l (n.take (i + 1)) = R by rw [HX.out, ← HF.out, List.erase_of_not_mem hno])
        clear hp hno
        go_wp2_with fail
        refine HPl.out.mono ?_
        rintro e wz ⟨rfl, hwz⟩
        subst wz
        go_wp2_with fail
        go_roundw
        case rel => exact ⟨i + 1, g, r, R, a2, c2, by go_num, by omega, rfl, hgr, rfl, HRr, HM.out, hbw, Lib.hid HN.out.symm⟩
        case measure => simp [intOf]; omega
      · rw [hp] at HPl
        rw [HRr.out] at hpl
        obtain ⟨br, o2, rfl, hb2, _⟩ := HM.out.row.2.2.2 (by rw [HRr.out]; omega)
        have hc2 := HM.out.1
        have hc3 := HM.out.2.1
        unfold maxLen at hc3
        rw [HRr.out] at hc2
        have h1 := HM.out.row.take (a' := some ⟨br, o2, none⟩) p (by rw [HRr.out]; omega) rfl
        have h2 := HM.out.row.drop (a' := if c2 = p + 1 then some ⟨br, o2, none⟩ else some ⟨br, o2 + (p + 1), none⟩) (p + 1) (by rw [HRr.out]; omega) (by simp [add_at])
        have HLe := Lib.hid (show P.less l (n.take (i + 1)) = R.take p ++ R.drop (p + 1) by rw [HX.out, ← HF.out, hpe])
        have HL1 := Lib.hid (show (R.take p).length = p by rw [List.length_take, HRr.out]; omega)
        have HL2 := Lib.hid (show (R.drop (p + 1)).length = r - (p + 1) by rw [List.length_drop, HRr.out])
        have hw1 : IntKind.i64.wrap ((p : Int) + 1) = (p : Int) + 1 := IntWalk.i64_in _ (by omega)
        have hp0 : (0 : Int) ≤ (p : Int) := by omega
        have hp1 : (p : Int) ≤ (c2 : Int) := by omega
        have hp2 : (p : Int) + 1 ≤ (r : Int) := by omega
        have hp3 : (0 : Int) ≤ (p : Int) + 1 := by omega
        have hp4 : (p : Int) ≤ (p : Int) + 1 := by omega
        obtain ⟨s, hs⟩ : ∃ s, (P.less l (n.take (i + 1))).length = s := ⟨_, rfl⟩
        have HS := Lib.hid hs
        have hsr : s + 1 = r := by rw [← hs, HLe.out, List.length_append, HL1.out, HL2.out]; omega
        clear hp hpx hpf hpe hs
        rcases (show (c2 = p + 1 ∧ r = p + 1) ∨ c2 ≠ p + 1 by omega) with ⟨hcc, hrr⟩ | hcc
        all_goals
          try subst hrr
          simp only [hcc, if_true, if_false] at h2
          have HPu := Lib.hid (rpush_any (R.take p) (R.drop (p + 1)) (P.less l (n.take (i + 1))) HLe.out _ _ _ _ wr.drew (by rw [HL1.out]; omega) (by rw [HL2.out]; omega) (h1.below (Below.refl _ _).drew) (h2.below (Below.refl _ _).drew))
          rw [HL1.out, HL2.out, HS.out] at HPu
          try subst hcc
          try simp only [Nat.sub_self] at HPu
          clear h1 h2
          go_wp2_with fail
          refine HPl.out.mono ?_
          rintro e wz ⟨rfl, hwz⟩
          subst wz
          go_wp2_with fail
          go_region_held3 (fun _ => True) (trivial) (first
            | (go_at_call 18; with_reducible refine HPu.out.mono ?_; rintro e w2 ⟨a3, c3, rfl, hM3, hB3⟩))
          go_wp2_with fail
          go_roundw
          case rel => exact ⟨i + 1, g + 1, s, _, a3, c3, by go_num, by omega, by go_num, by omega, rfl, HS, hM3.mono (by simpa using hbs), (below_drewN hbw 1).trans (hB3.mono (by simpa using hbs)), Lib.hid rfl⟩
          case measure => simp [intOf]; omega
    · obtain rfl : i = n.length := by omega
      have h := HF.out
      rw [List.take_length, ← HL.out] at h
      subst h
      have hgn : gn = g := by have := HG.out; have := HRr.out; omega
      go_wp2_with fail
      go_ret2
      exact ⟨a2, c2, by rw [hgn, HRr.out]; rfl, HM.out, hbw⟩
end Go.Proofs.Ytooophfmhohnmaa
