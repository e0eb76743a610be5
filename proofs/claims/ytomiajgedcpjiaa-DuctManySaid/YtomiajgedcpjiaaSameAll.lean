/- Two rows of ducts that are alike; letters too great; what the document says of a duct closed with a letter in it. -/
import Derived.Test.YtomiajgedcpjiaaRef
set_option linter.unusedSimpArgs false
set_option linter.unusedVariables false
namespace Go.Proofs.Ytomiajgedcpjiaa
open Go.RowKit Go.Proofs.Ytomiajgedcpjiaa.Kind

/-- The three cells of a duct in a row. -/
theorem DK.three {w : World} {b o : Nat} {l : List Dv} (h : DK.At w b o l) {j : Nat} {x : Dv} (hx : l[j]? = some x) :
    w.cell? ⟨b, o + j * 3, none⟩ = some (.int .i64 x.cap) ∧ w.cell? ⟨b, o + j * 3 + 1, none⟩ = some (.slice x.a x.n x.c) ∧ w.cell? ⟨b, o + j * 3 + 2, none⟩ = some (.bool x.closed) :=
  ⟨h j x hx 0 _ rfl, h j x hx 1 _ rfl, h j x hx 2 _ rfl⟩

set_option maxHeartbeats 4000000 in
set_option maxRecDepth 1000000 in
theorem rsameall_eq (l : List Dv) (hbare : ∀ x ∈ l, x.a = none ∧ x.n = 0 ∧ x.c = 0) (a b : Option Addr) (c d : Nat) (w : World) (hl : l.length ≤ 100000) (hA : DK.RowC w a c l) (hB : DK.RowC w b d l) :
    Calls Try.prog 18 #[.slice a l.length c, .slice b l.length d] w fun e w' => e = .returned (.bool true) ∧ Below w.heap.size w w' := by
  have HA := Lib.hid hA
  have HB := Lib.hid hB
  have HE := Lib.hid hbare
  clear hA hB hbare
  go_enter Try.func18, Try.ntmps18
  go_wp2_with fail
  go_loopw [5] (fun i wr => ∃ k : Nat, k ≤ l.length ∧ i = .int .i64 k ∧ Below w.heap.size w wr) (fun i _ => l.length - (intOf i).toNat)
  case atStart => exact ⟨0, by omega, rfl, Below.refl _ _⟩
  case round =>
    obtain ⟨k, hk, rfl, hb⟩ := hrel
    have HW := Lib.hid hb
    have hbs := hb.size
    clear hb
    by_cases hlt : k < l.length
    · obtain ⟨b1, o1, rfl, hb1, hat1⟩ := HA.out.2.2.2 (by omega)
      obtain ⟨b2, o2, rfl, hb2, hat2⟩ := HB.out.2.2.2 (by omega)
      obtain ⟨x, hx⟩ : ∃ x, l[k]? = some x := ⟨_, List.getElem?_eq_getElem hlt⟩
      obtain ⟨c0, c1, c2⟩ := DK.three (hat1.below HW.out hb1) hx
      obtain ⟨d0, d1, d2⟩ := DK.three (hat2.below HW.out hb2) hx
      obtain ⟨e1, e2, e3⟩ := HE.out x (List.mem_of_getElem? hx)
      rw [e1, e2, e3] at c1 d1
      have HS := Lib.hid (rsame_eq x.cap x.closed [] none none 0 0 wr.drew (by simp) (row_none _) (row_none _))
      rw [List.length_nil] at HS
      have hlb : (k : Int) < (l.length : Int) := by omega
      have hk0 : (0 : Int) ≤ (k : Int) := by omega
      have C0 := Lib.hid (show wr.drew.cell? ⟨b1, o1 + k * 3, none⟩ = some (.int .i64 x.cap) from c0)
      have C1 := Lib.hid (show wr.drew.cell? ⟨b1, o1 + k * 3 + 1, none⟩ = some (.slice none 0 0) from c1)
      have C2 := Lib.hid (show wr.drew.cell? ⟨b1, o1 + k * 3 + 2, none⟩ = some (.bool x.closed) from c2)
      have D0 := Lib.hid (show wr.drew.cell? ⟨b2, o2 + k * 3, none⟩ = some (.int .i64 x.cap) from d0)
      have D1 := Lib.hid (show wr.drew.cell? ⟨b2, o2 + k * 3 + 1, none⟩ = some (.slice none 0 0) from d1)
      have D2 := Lib.hid (show wr.drew.cell? ⟨b2, o2 + k * 3 + 2, none⟩ = some (.bool x.closed) from d2)
      have HB1 := Lib.hid (show b1 < wr.drew.heap.size by show b1 < wr.heap.size; omega)
      have HB2 := Lib.hid (show b2 < wr.drew.heap.size by show b2 < wr.heap.size; omega)
      clear hx hat1 hat2 e1 e2 e3
      go_wp2_with fail
      go_region_held3 (fun w' => (w'.cell? ⟨b1, o1 + k * 3, none⟩ = some (.int .i64 x.cap) ∧ w'.cell? ⟨b1, o1 + k * 3 + 1, none⟩ = some (.slice none 0 0) ∧ w'.cell? ⟨b1, o1 + k * 3 + 2, none⟩ = some (.bool x.closed)) ∧ (w'.cell? ⟨b2, o2 + k * 3, none⟩ = some (.int .i64 x.cap) ∧ w'.cell? ⟨b2, o2 + k * 3 + 1, none⟩ = some (.slice none 0 0) ∧ w'.cell? ⟨b2, o2 + k * 3 + 2, none⟩ = some (.bool x.closed))) (go_keep) (first
        | (go_at_call 23; with_reducible refine HS.out.mono ?_; rintro e w1 ⟨rfl, hB1⟩; have f0 := (hB1.cell (p := ⟨b1, o1 + k * 3, none⟩) HB1.out).trans C0.out; have f1 := (hB1.cell (p := ⟨b1, o1 + k * 3 + 1, none⟩) HB1.out).trans C1.out; have f2 := (hB1.cell (p := ⟨b1, o1 + k * 3 + 2, none⟩) HB1.out).trans C2.out; have g0 := (hB1.cell (p := ⟨b2, o2 + k * 3, none⟩) HB2.out).trans D0.out; have g1 := (hB1.cell (p := ⟨b2, o2 + k * 3 + 1, none⟩) HB2.out).trans D1.out; have g2 := (hB1.cell (p := ⟨b2, o2 + k * 3 + 2, none⟩) HB2.out).trans D2.out))
      go_wp2_with fail
      go_roundw
      case rel => exact ⟨k + 1, by omega, by go_num, HW.out.drew.trans (hB1.mono hbs)⟩
      case measure => simp [intOf]; omega
    · obtain rfl : k = l.length := by omega
      go_wp2_with fail
      go_ret
      exact ⟨rfl, HW.out⟩

set_option maxHeartbeats 4000000 in
set_option maxRecDepth 1000000 in
theorem great_any (cap : Int) (cl : Bool) (l k : List Lt) (a b : Option Addr) (c d : Nat) (w : World) (hA : LK.RowC w a c l) (hB : LK.RowC w b d k) :
    Calls Try.prog 21 #[.agg #[.int .i64 cap, .slice a l.length c, .bool cl], .slice b k.length d] w fun e w' => e = .returned (.bool (greatB l || greatB k)) ∧ Below w.heap.size w w' := by
  have hb := (Below.refl w.heap.size w).alloc (Nat.le_refl _) (.cells #[.int .i64 cap, .slice a l.length c, .bool cl] 26)
  have HW := Lib.hid hb
  have H1 := Lib.hid (rgreat_any l a c _ (hA.below hb))
  have H2 := Lib.hid (rgreat_any k b d _ (hB.below hb))
  clear hA hB hb
  generalize greatB l = p at *
  cases p
  all_goals
    go_enter Try.func21, Try.ntmps21
    go_wp2_with fail
    with_reducible refine H1.out.mono ?_
    rintro e w1 ⟨rfl, rfl⟩
    go_wp2_with fail
    try (with_reducible refine H2.out.mono ?_
         rintro e w1 ⟨rfl, rfl⟩
         go_wp2_with fail)
    go_ret
    exact ⟨by simp, HW.out⟩
end Go.Proofs.Ytomiajgedcpjiaa
