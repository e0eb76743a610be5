/- May a duct be; its room; whether it is ready. -/
import Derived.Test.YtfplkjnnnbknoaaApart
set_option linter.unusedSimpArgs false
set_option linter.unusedVariables false
namespace Go.Proofs.Ytfplkjnnnbknoaa
open Go.RowKit Go.Proofs.Ytfplkjnnnbknoaa.Kind

def mayB (cap : Int) (n : Nat) : Bool := decide (0 ≤ cap ∧ cap ≤ 64 ∧ (n : Int) ≤ cap)

set_option maxHeartbeats 4000000 in
set_option maxRecDepth 1000000 in
theorem may_one (cap : Int) (a : Option Addr) (n c : Nat) (cl : Bool) (t : TypeId) (g : Nat) (w : World) (h : w.heap[g]? = some (.cells #[.int .i64 cap, .slice a n c, .bool cl] t (0, 0))) :
    Calls Try.prog 35 #[.slice (some ⟨g, 0, none⟩) 1 1] w fun e w' => e = .returned (.bool (mayB cap n)) ∧ Below w.heap.size w w' := by
  have H := Lib.hid h
  have hg := lt_of_block h
  clear h
  go_enter Try.func35, Try.ntmps35
  go_wp2_with fail
  go_loopw [2, 7] (fun u2 u7 wr => ∃ k : Nat, u7 = .int .i64 k ∧ k ≤ 1 ∧ u2 = .bool false ∧ Below w.heap.size w wr ∧ Hid (k = 1 → mayB cap n = true)) (fun _ u _ => 1 - (intOf u).toNat)
  case atStart => exact ⟨0, rfl, by omega, rfl, Below.refl _ _, Lib.hid (by intro h; cases h)⟩
  case round =>
    obtain ⟨k, rfl, hk, rfl, hb, hF⟩ := hrel
    have HF := Lib.hid hF.out
    have HB := Lib.hid hb
    have hbs := hb.size
    have hg2 : g < wr.heap.size := by omega
    clear hF hb
    rcases (show k = 0 ∨ k = 1 by omega) with rfl | rfl
    · obtain ⟨⟨c0, c1, c2⟩, _⟩ := box3 ((HB.out.block g hg).trans H.out)
      clear HF
      rcases (show cap < 0 ∨ (0 ≤ cap ∧ 64 < cap) ∨ (0 ≤ cap ∧ cap ≤ 64 ∧ cap < (n : Int)) ∨ (0 ≤ cap ∧ cap ≤ 64 ∧ (n : Int) ≤ cap) by omega) with h1 | ⟨h1, h2⟩ | ⟨h1, h2, h3⟩ | ⟨h1, h2, h3⟩
      · have HR := Lib.hid (show mayB cap n = false by simp [mayB]; omega)
        go_wp2_with fail
        go_ret
        exact ⟨by rw [HR.out]; rfl, by first | exact HB.out.alloc hbs _ | exact (HB.out.alloc hbs _).drew⟩
      · have HR := Lib.hid (show mayB cap n = false by simp [mayB]; omega)
        go_wp2_with fail
        go_ret
        exact ⟨by rw [HR.out]; rfl, by first | exact HB.out.alloc hbs _ | exact (HB.out.alloc hbs _).drew⟩
      · have HR := Lib.hid (show mayB cap n = false by simp [mayB]; omega)
        go_wp2_with fail
        go_ret
        exact ⟨by rw [HR.out]; rfl, by first | exact HB.out.alloc hbs _ | exact (HB.out.alloc hbs _).drew⟩
      · have HR := Lib.hid (show mayB cap n = true by simp [mayB]; omega)
        go_wp2_with fail
        go_roundw
        case rel => exact ⟨1, by go_num, by omega, by trivial, by first | exact HB.out.alloc hbs _ | exact (HB.out.alloc hbs _).drew, Lib.hid (fun _ => HR.out)⟩
        case measure => simp [intOf]
    · have HR := Lib.hid (HF.out rfl)
      go_wp2_with fail
      go_ret
      exact ⟨by rw [HR.out]; rfl, HB.out⟩

def roomB (cap : Int) (n : Nat) (cl : Bool) : Int := if cl = true ∨ cap ≤ (n : Int) then 0 else cap - n

set_option maxHeartbeats 4000000 in
set_option maxRecDepth 1000000 in
theorem room_any (cap : Int) (a : Option Addr) (n c : Nat) (cl : Bool) (w : World) (hc : cap ≤ 9223372036854775807) :
    Calls Try.prog 37 #[.agg #[.int .i64 cap, .slice a n c, .bool cl]] w fun e w' => e = .returned (.int .i64 (roomB cap n cl)) ∧ w' = w.alloc (.cells #[.int .i64 cap, .slice a n c, .bool cl] 24) := by
  cases cl
  · by_cases h : cap ≤ (n : Int)
    · have HR := Lib.hid (show roomB cap n false = 0 by simp [roomB, h])
      go_enter Try.func37, Try.ntmps37
      go_wp2_with fail
      go_ret
      exact ⟨by rw [HR.out]; rfl, rfl⟩
    · have HR := Lib.hid (show roomB cap n false = cap - n by simp [roomB, h])
      have hw : IntKind.i64.wrap (cap - (n : Int)) = cap - n := by rw [IntKind.wrap_i64]; omega
      go_enter Try.func37, Try.ntmps37
      go_wp2_with fail
      go_ret
      exact ⟨by rw [HR.out]; rfl, rfl⟩
  · have HR := Lib.hid (show roomB cap n true = 0 by simp [roomB])
    go_enter Try.func37, Try.ntmps37
    go_wp2_with fail
    go_ret
    exact ⟨by rw [HR.out]; rfl, rfl⟩
end Go.Proofs.Ytfplkjnnnbknoaa
