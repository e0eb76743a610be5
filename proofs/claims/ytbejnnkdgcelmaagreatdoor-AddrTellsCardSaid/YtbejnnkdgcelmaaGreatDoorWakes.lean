/- What the document says of an address of each family. -/
import Derived.Test.YtbejnnkdgcelmaaGreatDoorParseB
set_option linter.unusedSimpArgs false
set_option linter.unusedVariables false
namespace Go.Proofs.YtbejnnkdgcelmaaGreatDoor
open Go.RowKit

theorem dec_one (u : Nat) (h : u < 10) : Lib.decDigits u = [UInt8.ofNat (48 + u)] := by rw [Lib.decDigits, dif_pos h]
theorem dec_more (u : Nat) (h : 10 ≤ u) : Lib.decDigits u = Lib.decDigits (u / 10) ++ [UInt8.ofNat (48 + u % 10)] := by rw [Lib.decDigits, dif_neg (by omega)]
def wA : Ad := ⟨4, 258, 772, 0, 0, 0, 0, 0, 0, 80⟩
def wB : Ad := ⟨6, 0, 0, 0, 0, 0, 0, 0, 1, 9⟩
theorem textA : P.textP wA = [49, 46, 50, 46, 51, 46, 52, 58, 56, 48] := by
  have h1 : P.textP wA = Lib.join [Lib.decDigits 1, Lib.decDigits 2, Lib.decDigits 3, Lib.decDigits 4] [46] ++ 58 :: Lib.decDigits 80 := rfl
  rw [h1, dec_one 1 (by omega), dec_one 2 (by omega), dec_one 3 (by omega), dec_one 4 (by omega), dec_more 80 (by omega), dec_one (80 / 10) (by omega)]
  rfl
theorem textB : P.textP wB = [91, 58, 58, 49, 93, 58, 57] := by
  have h1 : P.textP wB = [91, 58, 58, 49, 93, 58] ++ Lib.decDigits 9 := rfl
  rw [h1, dec_one 9 (by omega)]
  rfl
theorem parseB : P.parseP ⟨#[91, 48, 58, 48, 58, 58, 49, 93, 58, 57]⟩ = some wB := by kernel_rfl
theorem parseC : P.parseP ⟨#[49, 46, 50, 46, 51, 46, 48, 52, 58, 56, 48]⟩ = none := by kernel_rfl

theorem text_A (w : World) (hE : Env w) : Calls Tryz.prog 7 #[.agg #[.int .i8 4, .int .u16 258, .int .u16 772, .int .u16 0, .int .u16 0, .int .u16 0, .int .u16 0, .int .u16 0, .int .u16 0, .int .i64 80]] w fun e w' => e = .returned (.tuple #[.string ⟨#[49, 46, 50, 46, 51, 46, 52, 58, 56, 48]⟩, .int .i64 0]) ∧ Below w.heap.size w w' := by
  have := text_yes wA w rfl (by unfold Ad.Ok wA; decide) hE
  rw [textA] at this
  exact this
theorem text_B (w : World) (hE : Env w) : Calls Tryz.prog 7 #[.agg #[.int .i8 6, .int .u16 0, .int .u16 0, .int .u16 0, .int .u16 0, .int .u16 0, .int .u16 0, .int .u16 0, .int .u16 1, .int .i64 9]] w fun e w' => e = .returned (.tuple #[.string ⟨#[91, 58, 58, 49, 93, 58, 57]⟩, .int .i64 0]) ∧ Below w.heap.size w w' := by
  have := text_yes wB w rfl (by unfold Ad.Ok wB; decide) hE
  rw [textB] at this
  exact this
theorem parse_B (w : World) (hE : Env w) : Calls Tryz.prog 9 #[.string ⟨#[91, 48, 58, 48, 58, 58, 49, 93, 58, 57]⟩] w fun e w' => e = .returned (.tuple #[.agg #[.int .i8 6, .int .u16 0, .int .u16 0, .int .u16 0, .int .u16 0, .int .u16 0, .int .u16 0, .int .u16 0, .int .u16 1, .int .i64 9], .int .i64 0]) ∧ Below w.heap.size w w' := by
  have := parse_any ⟨#[91, 48, 58, 48, 58, 58, 49, 93, 58, 57]⟩ w (by decide) hE
  rw [parseB] at this
  exact this
theorem parse_C (w : World) (hE : Env w) : Calls Tryz.prog 9 #[.string ⟨#[49, 46, 50, 46, 51, 46, 48, 52, 58, 56, 48]⟩] w fun e w' => e = .returned (.tuple #[.agg #[.int .i8 0, .int .u16 0, .int .u16 0, .int .u16 0, .int .u16 0, .int .u16 0, .int .u16 0, .int .u16 0, .int .u16 0, .int .i64 0], .int .i64 20]) ∧ Below w.heap.size w w' := by
  have := parse_any ⟨#[49, 46, 50, 46, 51, 46, 48, 52, 58, 56, 48]⟩ w (by decide) hE
  rw [parseC] at this
  exact this

set_option maxHeartbeats 8000000 in
set_option maxRecDepth 1000000 in
theorem wakes_any (w : World) (hE : Env w) : Calls Tryz.prog 6 #[] w fun e w' => e = .returned (.bool true) ∧ Below w.heap.size w w' := by
  have HE := Lib.hid hE
  clear hE
  have hb0 : ∀ o, Below w.heap.size w (w.alloc o) := fun o => (Below.refl _ w).alloc (Nat.le_refl _) _
  have HB0 := Lib.hid hb0
  clear hb0
  go_enter Tryz.func6, Tryz.ntmps6
  go_wp2_with fail
  have HC := text_A _ (HE.out.below (HB0.out (Obj.cells #[.int .i8 4, .int .u16 258, .int .u16 772, .int .u16 0, .int .u16 0, .int .u16 0, .int .u16 0, .int .u16 0, .int .u16 0, .int .i64 80] 26)))
  with_reducible refine HC.mono ?_
  clear HC
  rintro e w1 ⟨rfl, hb1⟩
  have hb1 := (HB0.out _).trans (hb1.mono (HB0.out _).size)
  go_wp2_with fail
  have HC := parse_B w1 (HE.out.below hb1)
  with_reducible refine HC.mono ?_
  clear HC
  rintro e w2 ⟨rfl, hb2⟩
  have hb2 := hb1.trans (hb2.mono hb1.size)
  go_wp2_with fail
  have hA3 : A10 (w2.alloc (Obj.cells #[.int .i8 6, .int .u16 0, .int .u16 0, .int .u16 0, .int .u16 0, .int .u16 0, .int .u16 0, .int .u16 0, .int .u16 1, .int .i64 9] 26)) w2.heap.size 6 0 0 0 0 0 0 0 1 9 := by
    constructor
    all_goals first | (rw [World.cell?_alloc_new]; rfl) | (intro j; exact World.frozen?_alloc_new _ _ _ _)
  have hb3 : Below w.heap.size w (w2.alloc (Obj.cells #[.int .i8 6, .int .u16 0, .int .u16 0, .int .u16 0, .int .u16 0, .int .u16 0, .int .u16 0, .int .u16 0, .int .u16 1, .int .i64 9] 26)) := hb2.alloc hb2.size _
  have hz3 : (w2.alloc (Obj.cells #[.int .i8 6, .int .u16 0, .int .u16 0, .int .u16 0, .int .u16 0, .int .u16 0, .int .u16 0, .int .u16 0, .int .u16 1, .int .i64 9] 26)).heap.size = w2.heap.size + 1 := by simp
  generalize w2.alloc (Obj.cells #[.int .i8 6, .int .u16 0, .int .u16 0, .int .u16 0, .int .u16 0, .int .u16 0, .int .u16 0, .int .u16 0, .int .u16 1, .int .i64 9] 26) = W3 at *
  have HC := text_B W3 (HE.out.below hb3)
  with_reducible refine HC.mono ?_
  clear HC
  rintro e w4 ⟨rfl, hb4⟩
  have hA4 := hA3.below hb4 (by omega)
  have hs4 := hb4.size
  have hb4 := hb3.trans (hb4.mono hb3.size)
  go_wp2_with fail
  have HC := parse_C w4 (HE.out.below hb4)
  with_reducible refine HC.mono ?_
  clear HC
  rintro e w5 ⟨rfl, hb5⟩
  have hA5 := hA4.below hb5 (by omega)
  have hs5 := hb5.size
  have hb5 := hb4.trans (hb5.mono hb4.size)
  clear hA3 hA4 hb1 hb2 hb3 hb4
  obtain ⟨c0, c1, c2, c3, c4, c5, c6, c7, c8, c9, fz⟩ := hA5
  have hlt : w2.heap.size < w5.heap.size := by omega
  go_wp2_with fail
  go_ret
  exact ⟨rfl, hb5.alloc hb5.size _⟩
end Go.Proofs.YtbejnnkdgcelmaaGreatDoor
