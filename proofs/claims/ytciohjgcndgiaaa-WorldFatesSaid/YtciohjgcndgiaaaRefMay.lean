/- The document's own word on which are addresses. -/
import Derived.Test.YtciohjgcndgiaaaSpecs
set_option linter.unusedSimpArgs false
set_option linter.unusedVariables false
namespace Go.Proofs.Ytciohjgcndgiaaa
open Go.RowKit Go.Proofs.Ytciohjgcndgiaaa.Kind

def Ad.gs (a : Ad) : List Int := [a.g0, a.g1, a.g2, a.g3, a.g4, a.g5, a.g6, a.g7]
theorem mayP_eq (a : Ad) : mayP a = (mayG a && !(decide (a.p < 1)) && !(decide (65535 < a.p))) := by
  rw [mayP, Bool.eq_iff_iff]; simp
theorem all_step {α : Type} {f : α → Bool} (l : List α) (k : Nat) (x : α) (h : l[k]? = some x) : (l.drop k).all f = (f x && (l.drop (k + 1)).all f) := by
  rw [drop_at l k x h]
  rfl
structure A10 (w : World) (b : Nat) (f g0 g1 g2 g3 g4 g5 g6 g7 p : Int) : Prop where
  c0 : w.cell? ⟨b, 0, none⟩ = some (.int .i8 f)
  c1 : w.cell? ⟨b, 1, none⟩ = some (.int .u16 g0)
  c2 : w.cell? ⟨b, 2, none⟩ = some (.int .u16 g1)
  c3 : w.cell? ⟨b, 3, none⟩ = some (.int .u16 g2)
  c4 : w.cell? ⟨b, 4, none⟩ = some (.int .u16 g3)
  c5 : w.cell? ⟨b, 5, none⟩ = some (.int .u16 g4)
  c6 : w.cell? ⟨b, 6, none⟩ = some (.int .u16 g5)
  c7 : w.cell? ⟨b, 7, none⟩ = some (.int .u16 g6)
  c8 : w.cell? ⟨b, 8, none⟩ = some (.int .u16 g7)
  c9 : w.cell? ⟨b, 9, none⟩ = some (.int .i64 p)
  fz : ∀ j, w.frozen? ⟨b, j, none⟩ = false
theorem a10_at (w : World) (f g0 g1 g2 g3 g4 g5 g6 g7 p : Int) (t : TypeId) : A10 (w.alloc (Obj.cells #[.int .i8 f, .int .u16 g0, .int .u16 g1, .int .u16 g2, .int .u16 g3, .int .u16 g4, .int .u16 g5, .int .u16 g6, .int .u16 g7, .int .i64 p] t)) w.heap.size f g0 g1 g2 g3 g4 g5 g6 g7 p := by
  refine ⟨?_, ?_, ?_, ?_, ?_, ?_, ?_, ?_, ?_, ?_, ?_⟩
  all_goals first | (rw [World.cell?_alloc_new]; rfl) | simp

set_option maxHeartbeats 4000000 in
theorem refMay_one (a : Ad) (w : World) : Calls Try.prog 40 #[a.v] w fun e w' => e = .returned (.bool (mayP a)) ∧ Below w.heap.size w w' := by
  have hX := a10_at w a.f a.g0 a.g1 a.g2 a.g3 a.g4 a.g5 a.g6 a.g7 a.p 43
  have HB := Lib.hid ((Below.refl w.heap.size w).alloc (Nat.le_refl _) (Obj.cells #[.int .i8 a.f, .int .u16 a.g0, .int .u16 a.g1, .int .u16 a.g2, .int .u16 a.g3, .int .u16 a.g4, .int .u16 a.g5, .int .u16 a.g6, .int .u16 a.g7, .int .i64 a.p] 43))
  have HX := Lib.hid hX
  clear hX
  simp only [Ad.v]
  have HM := Lib.hid (mayP_eq a)
  by_cases hp1 : a.p < 1
  · have HR := Lib.hid (show mayP a = false by rw [HM.out]; simp [hp1])
    go_enter Try.func40, Try.ntmps40
    go_wp2_with fail
    generalize w.alloc (Obj.cells #[.int .i8 a.f, .int .u16 a.g0, .int .u16 a.g1, .int .u16 a.g2, .int .u16 a.g3, .int .u16 a.g4, .int .u16 a.g5, .int .u16 a.g6, .int .u16 a.g7, .int .i64 a.p] 43) = W1 at *
    obtain ⟨d0, d1, d2, d3, d4, d5, d6, d7, d8, d9, dz⟩ := HX.out
    go_wp2_with fail
    go_ret
    exact ⟨by rw [HR.out]; rfl, HB.out⟩
  · by_cases hp2 : 65535 < a.p
    · have HR := Lib.hid (show mayP a = false by rw [HM.out]; simp [hp2])
      go_enter Try.func40, Try.ntmps40
      go_wp2_with fail
      generalize w.alloc (Obj.cells #[.int .i8 a.f, .int .u16 a.g0, .int .u16 a.g1, .int .u16 a.g2, .int .u16 a.g3, .int .u16 a.g4, .int .u16 a.g5, .int .u16 a.g6, .int .u16 a.g7, .int .i64 a.p] 43) = W1 at *
      obtain ⟨d0, d1, d2, d3, d4, d5, d6, d7, d8, d9, dz⟩ := HX.out
      go_wp2_with fail
      go_ret
      exact ⟨by rw [HR.out]; rfl, HB.out⟩
    · by_cases h4 : a.f = 4
      · have HR := Lib.hid (show ((a.gs.drop 2).all (· == 0)) = mayP a by rw [HM.out]; simp [mayG, h4, hp1, hp2, Ad.gs, Bool.and_assoc])
        have hf1 : (a.f != 4) = false := by simp [h4]
        have hf2 : (a.f == 4) = true := by simp [h4]
        clear h4
        go_enter Try.func40, Try.ntmps40
        go_wp2_with fail
        generalize w.alloc (Obj.cells #[.int .i8 a.f, .int .u16 a.g0, .int .u16 a.g1, .int .u16 a.g2, .int .u16 a.g3, .int .u16 a.g4, .int .u16 a.g5, .int .u16 a.g6, .int .u16 a.g7, .int .i64 a.p] 43) = W1 at *
        obtain ⟨d0, d1, d2, d3, d4, d5, d6, d7, d8, d9, dz⟩ := HX.out
        go_wp2_with fail
        go_loop [3] (fun u3 => ∃ i : Nat, u3 = .int .i64 i ∧ 2 ≤ i ∧ i ≤ 8 ∧ Hid (((a.gs.drop i).all (· == 0)) = mayP a)) (fun u3 => 8 - (intOf u3).toNat)
        case atStart => exact ⟨2, rfl, by omega, by omega, HR⟩
        case round =>
          obtain ⟨i, rfl, hi2, hi8, hR⟩ := hrel
          rcases (show i = 2 ∨ i = 3 ∨ i = 4 ∨ i = 5 ∨ i = 6 ∨ i = 7 ∨ i = 8 by omega) with rfl | rfl | rfl | rfl | rfl | rfl | rfl
          · by_cases hg : a.g2 = 0
            · have hgb : (a.g2 != 0) = false := by simp [hg]
              have HR2 := Lib.hid (show ((a.gs.drop 3).all (· == 0)) = mayP a by rw [← hR.out]; simp [Ad.gs, hg])
              clear hg
              go_wp2_with fail
              go_round
              case rel => exact ⟨3, rfl, by omega, by omega, HR2⟩
              case measure => simp [intOf]
            · have hgb : (a.g2 != 0) = true := by simp [hg]
              have HR2 := Lib.hid (show mayP a = false by rw [← hR.out]; simp [Ad.gs, hg])
              clear hg
              go_wp2_with fail
              go_ret
              exact ⟨by rw [HR2.out]; rfl, HB.out⟩
          · by_cases hg : a.g3 = 0
            · have hgb : (a.g3 != 0) = false := by simp [hg]
              have HR2 := Lib.hid (show ((a.gs.drop 4).all (· == 0)) = mayP a by rw [← hR.out]; simp [Ad.gs, hg])
              clear hg
              go_wp2_with fail
              go_round
              case rel => exact ⟨4, rfl, by omega, by omega, HR2⟩
              case measure => simp [intOf]
            · have hgb : (a.g3 != 0) = true := by simp [hg]
              have HR2 := Lib.hid (show mayP a = false by rw [← hR.out]; simp [Ad.gs, hg])
              clear hg
              go_wp2_with fail
              go_ret
              exact ⟨by rw [HR2.out]; rfl, HB.out⟩
          · by_cases hg : a.g4 = 0
            · have hgb : (a.g4 != 0) = false := by simp [hg]
              have HR2 := Lib.hid (show ((a.gs.drop 5).all (· == 0)) = mayP a by rw [← hR.out]; simp [Ad.gs, hg])
              clear hg
              go_wp2_with fail
              go_round
              case rel => exact ⟨5, rfl, by omega, by omega, HR2⟩
              case measure => simp [intOf]
            · have hgb : (a.g4 != 0) = true := by simp [hg]
              have HR2 := Lib.hid (show mayP a = false by rw [← hR.out]; simp [Ad.gs, hg])
              clear hg
              go_wp2_with fail
              go_ret
              exact ⟨by rw [HR2.out]; rfl, HB.out⟩
          · by_cases hg : a.g5 = 0
            · have hgb : (a.g5 != 0) = false := by simp [hg]
              have HR2 := Lib.hid (show ((a.gs.drop 6).all (· == 0)) = mayP a by rw [← hR.out]; simp [Ad.gs, hg])
              clear hg
              go_wp2_with fail
              go_round
              case rel => exact ⟨6, rfl, by omega, by omega, HR2⟩
              case measure => simp [intOf]
            · have hgb : (a.g5 != 0) = true := by simp [hg]
              have HR2 := Lib.hid (show mayP a = false by rw [← hR.out]; simp [Ad.gs, hg])
              clear hg
              go_wp2_with fail
              go_ret
              exact ⟨by rw [HR2.out]; rfl, HB.out⟩
          · by_cases hg : a.g6 = 0
            · have hgb : (a.g6 != 0) = false := by simp [hg]
              have HR2 := Lib.hid (show ((a.gs.drop 7).all (· == 0)) = mayP a by rw [← hR.out]; simp [Ad.gs, hg])
              clear hg
              go_wp2_with fail
              go_round
              case rel => exact ⟨7, rfl, by omega, by omega, HR2⟩
              case measure => simp [intOf]
            · have hgb : (a.g6 != 0) = true := by simp [hg]
              have HR2 := Lib.hid (show mayP a = false by rw [← hR.out]; simp [Ad.gs, hg])
              clear hg
              go_wp2_with fail
              go_ret
              exact ⟨by rw [HR2.out]; rfl, HB.out⟩
          · by_cases hg : a.g7 = 0
            · have hgb : (a.g7 != 0) = false := by simp [hg]
              have HR2 := Lib.hid (show ((a.gs.drop 8).all (· == 0)) = mayP a by rw [← hR.out]; simp [Ad.gs, hg])
              clear hg
              go_wp2_with fail
              go_round
              case rel => exact ⟨8, rfl, by omega, by omega, HR2⟩
              case measure => simp [intOf]
            · have hgb : (a.g7 != 0) = true := by simp [hg]
              have HR2 := Lib.hid (show mayP a = false by rw [← hR.out]; simp [Ad.gs, hg])
              clear hg
              go_wp2_with fail
              go_ret
              exact ⟨by rw [HR2.out]; rfl, HB.out⟩
          · have HR2 := Lib.hid (show mayP a = true by rw [← hR.out]; simp [Ad.gs])
            go_wp2_with fail
            go_ret
            exact ⟨by rw [HR2.out]; rfl, HB.out⟩
      · by_cases h6 : a.f = 6
        · have HR := Lib.hid (show mayP a = true by rw [HM.out]; simp [mayG, h6, hp1, hp2])
          have hf1 : (a.f != 4) = true := by simp [h4]
          have hf2 : (a.f == 4) = false := by simp [h4]
          have hf3 : (a.f != 6) = false := by simp [h6]
          clear h4 h6
          go_enter Try.func40, Try.ntmps40
          go_wp2_with fail
          generalize w.alloc (Obj.cells #[.int .i8 a.f, .int .u16 a.g0, .int .u16 a.g1, .int .u16 a.g2, .int .u16 a.g3, .int .u16 a.g4, .int .u16 a.g5, .int .u16 a.g6, .int .u16 a.g7, .int .i64 a.p] 43) = W1 at *
          obtain ⟨d0, d1, d2, d3, d4, d5, d6, d7, d8, d9, dz⟩ := HX.out
          go_wp2_with fail
          go_loop [3] (fun u3 => u3 = .int .i64 2) (fun u3 => 8 - (intOf u3).toNat)
          case atStart => rfl
          case round =>
            obtain rfl := hrel
            go_wp2_with fail
            go_ret
            exact ⟨by rw [HR.out]; rfl, HB.out⟩
        · have HR := Lib.hid (show mayP a = false by rw [HM.out]; simp [mayG, h4, h6])
          have hf1 : (a.f != 4) = true := by simp [h4]
          have hf2 : (a.f == 4) = false := by simp [h4]
          have hf3 : (a.f != 6) = true := by simp [h6]
          clear h4 h6
          go_enter Try.func40, Try.ntmps40
          go_wp2_with fail
          generalize w.alloc (Obj.cells #[.int .i8 a.f, .int .u16 a.g0, .int .u16 a.g1, .int .u16 a.g2, .int .u16 a.g3, .int .u16 a.g4, .int .u16 a.g5, .int .u16 a.g6, .int .u16 a.g7, .int .i64 a.p] 43) = W1 at *
          obtain ⟨d0, d1, d2, d3, d4, d5, d6, d7, d8, d9, dz⟩ := HX.out
          go_wp2_with fail
          go_ret
          exact ⟨by rw [HR.out]; rfl, HB.out⟩

set_option maxHeartbeats 2000000 in
theorem refMay_any (l : List Ad) (a : Option Addr) (c : Nat) (w : World) (hl : l.length ≤ 100000) (hA : AK.RowC w a c l) :
    Calls Try.prog 18 #[.slice a l.length c] w fun e w' => e = .returned (.bool (l.all mayP)) ∧ Below w.heap.size w w' := by
  have HA := Lib.hid hA
  have HC := Lib.hid refMay_one
  simp only [Ad.v] at HC
  clear hA
  go_enter Try.func18, Try.ntmps18
  go_wp2_with fail
  go_loopw [3] (fun u3 wr => ∃ k : Nat, u3 = .int .i64 k ∧ k ≤ l.length ∧ Below w.heap.size w wr ∧ Hid ((l.drop k).all mayP = l.all mayP)) (fun u3 _ => l.length - (intOf u3).toNat)
  case atStart => exact ⟨0, rfl, by omega, Below.refl _ _, Lib.hid rfl⟩
  case round =>
    obtain ⟨k, rfl, hk, hbw, hR⟩ := hrel
    by_cases hlt : k < l.length
    · obtain ⟨b, o, rfl, hb, hat⟩ := (HA.out.below hbw).2.2.2 (by omega)
      obtain ⟨x, hx⟩ : ∃ x, l[k]? = some x := ⟨_, List.getElem?_eq_getElem hlt⟩
      obtain ⟨⟨c0, c1, c2, c3, c4⟩, c5, c6, c7, c8, c9⟩ := AK.ten hat hx
      have HS := Lib.hid (all_step (f := mayP) l k x hx)
      have HC1 := Lib.hid (HC.out x wr)
      clear hat hx
      obtain ⟨m, hm⟩ : ∃ m, mayP x = m := ⟨_, rfl⟩
      rw [hm] at HC1 HS
      clear hm
      go_wp2_with fail
      with_reducible refine HC1.out.mono ?_
      rintro e w2 ⟨rfl, hb2⟩
      have HB2 := Lib.hid (hbw.trans (hb2.mono hbw.size))
      clear c0 c1 c2 c3 c4 c5 c6 c7 c8 c9 hb2
      cases m with
      | true =>
        have HR2 := Lib.hid (show (l.drop (k + 1)).all mayP = l.all mayP by rw [← hR.out, HS.out]; rfl)
        go_wp2_with fail
        go_roundw
        case rel => exact ⟨k + 1, by go_num, by omega, HB2.out, HR2⟩
        case measure => simp [intOf]; omega
      | false =>
        have HR2 := Lib.hid (show l.all mayP = false by rw [← hR.out, HS.out]; rfl)
        go_wp2_with fail
        go_ret
        exact ⟨by rw [HR2.out]; rfl, HB2.out⟩
    · obtain rfl : k = l.length := by omega
      have HR2 := Lib.hid (show l.all mayP = true by rw [← hR.out, List.drop_length]; rfl)
      go_wp2_with fail
      go_ret
      exact ⟨by rw [HR2.out]; rfl, hbw⟩
end Go.Proofs.Ytciohjgcndgiaaa
