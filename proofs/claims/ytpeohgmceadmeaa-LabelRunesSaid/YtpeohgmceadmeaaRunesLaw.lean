/- LabelRunes: the walk. -/
import Derived.Test.YtpeohgmceadmeaaBehind
import Derived.Test.YtpeohgmceadmeaaSame
namespace Go.Proofs.Ytpeohgmceadmeaa
open Go.RowKit

set_option maxHeartbeats 8000000 in
set_option maxRecDepth 1000000 in
theorem runes_wakes (a b : ByteArray) (w : World) (h : 1000 < a.size ∨ 1000 < b.size) (wa : a.size ≤ maxLen) (wb : b.size ≤ maxLen) :
    Calls Try.prog 5 #[.string a, .string b] w fun e w' => e = .returned (.bool true) ∧ Below w.heap.size w w' := by
  unfold maxLen at wa wb
  by_cases h1 : 1000 < a.size
  all_goals
    have h2 : a.size ≤ 1000 → 1000 < b.size := by omega
    have H2 := Lib.hid h2
    clear h h2
    go_enter Try.func5, Try.ntmps5
  · go_wp2_with fail
    refine (wakes_any _).mono ?_
    rintro e w1 ⟨rfl, hb1⟩
    go_wp2_with fail
    go_ret
    exact ⟨rfl, hb1⟩
  · have h3 := H2.out (by omega)
    go_wp2_with fail
    refine (wakes_any _).mono ?_
    rintro e w1 ⟨rfl, hb1⟩
    go_wp2_with fail
    go_ret
    exact ⟨rfl, hb1⟩

/-- The same, its counts told as plain numbers. -/
theorem runes_num (s : ByteArray) (x y : Nat) (w : World) (hs : s.size ≤ 4000) (h : P.wells (P.runesOf s.data.toList) = x ∧ P.ills (P.runesOf s.data.toList) = y) :
    Calls Try.prog 9 #[.string s] w fun e w' => e = .returned (.tuple #[.int .i64 x, .int .i64 y]) ∧ Below w.heap.size w w' :=
  (runes_any s w hs).mono fun e w' ⟨he, hb⟩ => ⟨by rw [he, h.1, h.2], hb⟩

set_option maxHeartbeats 8000000 in
set_option maxRecDepth 1000000 in
theorem runes_small (a b : ByteArray) (w : World) (ha : a.size ≤ 1000) (hb : b.size ≤ 1000) :
    Calls Try.prog 5 #[.string a, .string b] w fun e w' => e = .returned (.bool true) ∧ Below w.heap.size w w' := by
  have hla : a.data.toList.length = a.size := by simp
  have hlb : b.data.toList.length = b.size := by simp
  have eab : (a ++ b).data.toList = a.data.toList ++ b.data.toList := by simp
  have eax : (a ++ ⟨#[255]⟩ ++ b).data.toList = a.data.toList ++ 255 :: b.data.toList := by simp
  obtain ⟨x, hx⟩ : ∃ x, P.wells (P.runesOf a.data.toList) = x := ⟨_, rfl⟩
  obtain ⟨y, hy⟩ : ∃ x, P.ills (P.runesOf a.data.toList) = x := ⟨_, rfl⟩
  obtain ⟨p, hp⟩ : ∃ x, P.wells (P.runesOf b.data.toList) = x := ⟨_, rfl⟩
  obtain ⟨q, hq⟩ : ∃ x, P.ills (P.runesOf b.data.toList) = x := ⟨_, rfl⟩
  obtain ⟨u, hu⟩ : ∃ x, P.wells (P.runesOf (a ++ b).data.toList) = x := ⟨_, rfl⟩
  obtain ⟨v, hv⟩ : ∃ x, P.ills (P.runesOf (a ++ b).data.toList) = x := ⟨_, rfl⟩
  have c1 := P.count_le a.data.toList
  have c2 := P.count_le b.data.toList
  have c3 := P.count_le (a ++ b).data.toList
  rw [hx, hy, hla] at c1
  rw [hp, hq, hlb] at c2
  rw [hu, hv, eab, List.length_append, hla, hlb] at c3
  have HN : Hid (P.name a.data.toList = true → y = 0) := Lib.hid (fun h => by rw [← hy]; exact P.name_well _ h)
  have H0 : Hid (y = 0 → u = x + p ∧ v = q) := Lib.hid (fun h => by
    rw [← hu, ← hv, eab, P.runes_append _ _ (by rw [hy]; exact h), P.wells_append, P.ills_append, hx, hy, hp, hq, h]
    exact ⟨rfl, by omega⟩)
  obtain ⟨s, hs⟩ : ∃ x, P.wells (P.runesOf (a ++ ⟨#[255]⟩ ++ b).data.toList) = x := ⟨_, rfl⟩
  obtain ⟨t, ht⟩ : ∃ x, P.ills (P.runesOf (a ++ ⟨#[255]⟩ ++ b).data.toList) = x := ⟨_, rfl⟩
  have hst : s = x + p ∧ t = y + q + 1 := by
    rw [← hs, ← ht, eax, P.runes_ff, P.wells_append, P.ills_append, P.wells_cons, P.ills_cons, hx, hy, hp, hq]
    constructor
    · simp
    · simp; omega
  obtain ⟨e1, e2⟩ := hst
  have s1 : s ≤ x + p := by omega
  have s2 : x + p ≤ s := by omega
  have t1 : t ≤ y + q + 1 := by omega
  have t2 : y + q + 1 ≤ t := by omega
  have HA := Lib.hid (And.intro hx hy)
  have HB := Lib.hid (And.intro hp hq)
  have HAB := Lib.hid (And.intro hu hv)
  have HAX := Lib.hid (And.intro hs ht)
  have sab : (a ++ b).size ≤ 4000 := by simp; omega
  have sax : (a ++ ⟨#[255]⟩ ++ b).size ≤ 4000 := by
    have : (⟨#[255]⟩ : ByteArray).size = 1 := rfl
    simp [this]; omega
  have SAB := Lib.hid sab
  have SAX := Lib.hid sax
  clear hla hlb eab eax hx hy hp hq hu hv hs ht sab sax e1 e2
  have hcase : (y = 0 ∧ u ≤ x + p ∧ x + p ≤ u ∧ v ≤ q ∧ q ≤ v) ∨ 1 ≤ y := by
    by_cases h : y = 0
    · have := H0.out h; omega
    · omega
  cases hn : P.name a.data.toList
  all_goals
    have HNE := Lib.hid hn
    rcases hcase with ⟨hy0, u1, u2, v1, v2⟩ | hy1
  rotate_left 3
  · exact absurd (HN.out hn) (by omega)
  all_goals
    clear hn HN H0
    have B1 : ((s : Int) == (x : Int) + (p : Int)) = true := by rw [beq_iff_eq]; omega
    have B2 : ((t : Int) == (y : Int) + (q : Int) + 1) = true := by rw [beq_iff_eq]; omega
    clear s1 s2 t1 t2
    try have B3 : ((u : Int) == (x : Int) + (p : Int)) = true := by rw [beq_iff_eq]; omega
    try have B4 : ((v : Int) == (q : Int)) = true := by rw [beq_iff_eq]; omega
    first | (have B5 : ((y : Int) != 0) = true := by rw [bne_iff_ne]; omega) | (have B5 : ((y : Int) != 0) = false := by rw [hy0]; rfl)
    try clear u1 u2 v1 v2 hy0
    try clear hy1
    go_enter Try.func5, Try.ntmps5
    go_wp2_with fail
    refine (runes_num a x _ _ (by omega) HA.out).mono ?_
    rintro e w1 ⟨rfl, hb1⟩
    go_wp2_with fail
    refine (runes_num b p _ _ (by omega) HB.out).mono ?_
    rintro e w2 ⟨rfl, hb2⟩
    have hb2 := hb1.trans (hb2.mono hb1.size)
    clear hb1
    go_wp2_with fail
    refine (runes_num (a ++ b) u v _ SAB.out HAB.out).mono ?_
    rintro e w3 ⟨rfl, hb3⟩
    have hb3 := hb2.trans (hb3.mono hb2.size)
    clear hb2
    go_wp2_with fail
    refine (valid_one a _ _ (by omega) (by simp) (by simp [go_sem])).mono ?_
    rw [HNE.out]
    rintro e w5 ⟨rfl, hb5⟩
    have hb5 := (hb3.alloc hb3.size _).trans (hb5.mono (by have := hb3.size; simp; omega))
    clear hb3
    go_wp2_with fail
    have HC := runes_num (a ++ ⟨#[255]⟩ ++ b) s t w5 SAX.out HAX.out
    with_reducible refine HC.mono ?_
    clear HC
    rintro e w6 ⟨rfl, hb6⟩
    have hb6 := hb5.trans (hb6.mono hb5.size)
    clear hb5
    go_wp2_with fail
    refine (wakes_any _).mono ?_
    rintro e w7 ⟨rfl, hb7⟩
    have hb7 := hb6.trans (hb7.mono hb6.size)
    clear hb6
    go_wp2_with fail
    go_ret
    exact ⟨rfl, hb7⟩
theorem runes_walk (a b : ByteArray) (w : World) (wa : a.size ≤ maxLen) (wb : b.size ≤ maxLen) :
    Calls Try.prog 5 #[.string a, .string b] w fun e w' => e = .returned (.bool true) ∧ Below w.heap.size w w' := by
  by_cases h : 1000 < a.size ∨ 1000 < b.size
  · exact runes_wakes a b w h wa wb
  · exact runes_small a b w (by omega) (by omega)
end Go.Proofs.Ytpeohgmceadmeaa
