/- May: which are addresses. -/
import Derived.Test.YtbejnnkdgcelmaaGreatDoorEq
set_option linter.unusedSimpArgs false
set_option linter.unusedVariables false
namespace Go.Proofs.YtbejnnkdgcelmaaGreatDoor
open Go.RowKit

set_option maxHeartbeats 2000000 in
set_option maxRecDepth 100000 in
theorem mayGroups_any (a : Ad) (w : World) :
    Calls Tryz.prog 32 #[.int .i8 a.f, .agg a.gv.toArray] w fun e w' => e = .returned (.bool (mayG a)) ∧ Below w.heap.size w w' := by
  obtain ⟨f, g0, g1, g2, g3, g4, g5, g6, g7, p⟩ := a
  simp only [Ad.gv, mayG]
  have hE := eql_groups
  have hG := guard_groups
  cases h4 : (f == 4)
  · cases h6 : (f == 6)
    · go_enter Tryz.func32, Tryz.ntmps32
      go_wp2_with fail
      go_ret
      exact ⟨by simp_all, (Below.refl _ w).alloc (Nat.le_refl _) _⟩
    · go_enter Tryz.func32, Tryz.ntmps32
      go_wp2_with fail
      go_ret
      exact ⟨by simp_all, (Below.refl _ w).alloc (Nat.le_refl _) _⟩
  · go_enter Tryz.func32, Tryz.ntmps32
    go_wp2_with fail
    go_ret
    exact ⟨by simp_all [Bool.and_assoc], (Below.refl _ w).alloc (Nat.le_refl _) _⟩

/-- A row of addresses lies in cells. -/
def AdsAt (w : World) (b o : Nat) (l : List Ad) : Prop := ∀ (j : Nat) (a : Ad), l[j]? = some a → ∀ (i : Nat) (v : Value), a.enc[i]? = some v → w.cell? ⟨b, o + j * 10 + i, none⟩ = some v
theorem AdsAt.cells {w : World} {b o : Nat} {l : List Ad} (h : AdsAt w b o l) (j : Nat) (a : Ad) (ha : l[j]? = some a) :
    w.cell? ⟨b, o + j * 10, none⟩ = some (.int .i8 a.f) ∧ w.cell? ⟨b, o + j * 10 + 1, none⟩ = some (.int .u16 a.g0) ∧ w.cell? ⟨b, o + j * 10 + 2, none⟩ = some (.int .u16 a.g1) ∧ w.cell? ⟨b, o + j * 10 + 3, none⟩ = some (.int .u16 a.g2) ∧
    w.cell? ⟨b, o + j * 10 + 4, none⟩ = some (.int .u16 a.g3) ∧ w.cell? ⟨b, o + j * 10 + 5, none⟩ = some (.int .u16 a.g4) ∧ w.cell? ⟨b, o + j * 10 + 6, none⟩ = some (.int .u16 a.g5) ∧ w.cell? ⟨b, o + j * 10 + 7, none⟩ = some (.int .u16 a.g6) ∧ w.cell? ⟨b, o + j * 10 + 8, none⟩ = some (.int .u16 a.g7) ∧ w.cell? ⟨b, o + j * 10 + 9, none⟩ = some (.int .i64 a.p) :=
  ⟨h j a ha 0 _ rfl, h j a ha 1 _ rfl, h j a ha 2 _ rfl, h j a ha 3 _ rfl, h j a ha 4 _ rfl, h j a ha 5 _ rfl, h j a ha 6 _ rfl, h j a ha 7 _ rfl, h j a ha 8 _ rfl, h j a ha 9 _ rfl⟩
theorem AdsAt.below {w w' : World} {b o n : Nat} {l : List Ad} (h : AdsAt w b o l) (hb : Below n w w') (hn : b < n) : AdsAt w' b o l :=
  fun j a ha i v hv => (hb.cell hn).trans (h j a ha i v hv)


theorem all_step (l : List Ad) (k : Nat) (a : Ad) (ha : l[k]? = some a) : (l.drop k).all mayP = (mayP a && (l.drop (k + 1)).all mayP) := by
  obtain ⟨h, e⟩ := List.getElem?_eq_some_iff.1 ha
  rw [List.drop_eq_getElem_cons h, e, List.all_cons]
theorem mayP_eq (a : Ad) : mayP a = (mayG a && !(decide (a.p < 1)) && !(decide (65535 < a.p))) := by
  rw [mayP, Bool.eq_iff_iff]; simp

set_option maxHeartbeats 2000000 in
set_option maxRecDepth 100000 in
theorem may_any (l : List Ad) (b o c : Nat) (w : World) (hl : l.length ≤ 100000) (hb : b < w.heap.size) (hA : AdsAt w b o l) :
    Calls Tryz.prog 11 #[.slice (some ⟨b, o, none⟩) l.length c] w fun e w' => e = .returned (.bool (l.all mayP)) ∧ Below w.heap.size w w' := by
  go_enter Tryz.func11, Tryz.ntmps11
  go_wp2_with fail
  go_loopw [7] (fun i wr => ∃ k : Nat, i = .int .i64 k ∧ k ≤ l.length ∧ Below w.heap.size w wr ∧ Hid ((l.drop k).all mayP = l.all mayP)) (fun i _ => l.length - (intOf i).toNat)
  case atStart => exact ⟨0, rfl, by omega, Below.refl _ _, Lib.hid rfl⟩
  case round =>
    obtain ⟨k, rfl, hk, hbw, hall⟩ := hrel
    have hbs := hbw.size
    by_cases hlt : k < l.length
    · obtain ⟨a, ha⟩ : ∃ a, l[k]? = some a := ⟨_, List.getElem?_eq_getElem hlt⟩
      obtain ⟨c0, c1, c2, c3, c4, c5, c6, c7, c8, c9⟩ := (hA.below hbw hb).cells k a ha
      have HS := Lib.hid (And.intro (all_step l k a ha) (mayP_eq a))
      clear ha
      go_wp2_with fail
      have HC := mayGroups_any a (wr.alloc (.cells a.enc.toArray 26))
      simp only [Ad.gv, Ad.enc] at HC
      with_reducible refine HC.mono ?_
      clear HC
      rintro e w1 ⟨rfl, hb1⟩
      have cp : w1.cell? ⟨wr.heap.size, 9, none⟩ = some (.int .i64 a.p) := (hb1.cell (p := ⟨wr.heap.size, 9, none⟩) (by simp)).trans (by simp [go_sem])
      have hb2 : Below w.heap.size w w1 := (hbw.alloc hbw.size _).trans (hb1.mono (by simp; omega))
      have hs1 := hb1.size
      simp at hs1
      generalize hg : mayG a = G at *
      have HG := Lib.hid hg
      clear hg hb1 c0 c1 c2 c3 c4 c5 c6 c7 c8 c9
      rcases (show (a.p < 1 ∧ ¬ 65535 < a.p) ∨ (¬ a.p < 1 ∧ 65535 < a.p) ∨ (¬ a.p < 1 ∧ ¬ 65535 < a.p) by omega) with ⟨h1, h2⟩ | ⟨h1, h2⟩ | ⟨h1, h2⟩ <;> cases G
      all_goals
        go_wp2_with fail
        first
          | (go_ret
             exact ⟨by rw [← hall.out, HS.out.1, HS.out.2]; simp [HG.out, h1, h2], hb2⟩)
          | (go_roundw
             case rel => exact ⟨k + 1, by go_num, by omega, hb2, Lib.hid (by rw [← hall.out, HS.out.1, HS.out.2]; simp [HG.out, h1, h2])⟩
             case measure => simp [intOf]; omega)
    · obtain rfl : k = l.length := by omega
      go_wp2_with fail
      go_ret
      exact ⟨by rw [← hall.out]; simp, hbw⟩
end Go.Proofs.YtbejnnkdgcelmaaGreatDoor
