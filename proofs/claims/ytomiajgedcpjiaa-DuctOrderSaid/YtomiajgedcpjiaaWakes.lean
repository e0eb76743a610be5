/- What the document says of a duct that is closed with a letter in it. -/
import Derived.Test.YtomiajgedcpjiaaSameAll
import Derived.Test.YtomiajgedcpjiaaNum
set_option linter.unusedSimpArgs false
set_option linter.unusedVariables false
namespace Go.Proofs.Ytomiajgedcpjiaa
open Go.RowKit Go.Proofs.Ytomiajgedcpjiaa.Kind

/-- A row of one letter, just laid. -/
theorem row1 (w : World) (x : Lt) : LK.RowC (w.alloc (.cells #[.int .i8 x.kind, .int .i64 x.fr, .int .i64 x.num, .int .i64 x.sock, .string x.text, .int .i64 x.e] 32)) (some ⟨w.heap.size, 0, none⟩) 1 [x] :=
  rowC_at (K := LK) w 32 [x] _ _ 1 rfl rfl rfl (by simp)
theorem row1v (w : World) (k f n s e : Int) (t : ByteArray) : LK.RowC (w.alloc (.cells #[.int .i8 k, .int .i64 f, .int .i64 n, .int .i64 s, .string t, .int .i64 e] 32)) (some ⟨w.heap.size, 0, none⟩) 1 [⟨k, f, n, s, t, e⟩] := row1 w ⟨k, f, n, s, t, e⟩

set_option maxHeartbeats 8000000 in
set_option maxRecDepth 1000000 in
theorem wakes_any (w : World) : Calls Try.prog 7 #[] w fun e w' => e = .returned (.bool true) ∧ Below w.heap.size w w' := by
  have hb := (Below.refl w.heap.size w).alloc (Nat.le_refl _) (.cells #[.int .i8 1, .int .i64 3, .int .i64 0, .int .i64 0, .string ⟨#[]⟩, .int .i64 0] 32)
  have HW := Lib.hid hb
  have HN := Lib.hid (new_any 1 _ (by decide) (some ⟨w.heap.size, 0, none⟩) 1 _ (row1v w 1 3 0 0 0 ⟨#[]⟩))
  rw [List.length_singleton] at HN
  clear hb
  go_enter Try.func7, Try.ntmps7
  go_wp2_with fail
  with_reducible refine HN.out.mono ?_
  rintro e w1 ⟨a1, c1, rfl, hF, hB⟩
  have HB1 := Lib.hid (HW.out.trans (hB.mono (by simp)))
  have hs1 := HB1.out.size
  -- Close
  have hb := (Below.refl w1.heap.size w1).alloc (Nat.le_refl _) (.cells #[.int .i64 1, .slice a1 1 c1, .bool false] 26)
  have HC := Lib.hid (close_any 1 false _ 0 (by simp [CloseR]) (by decide) a1 c1 _ (hF.row.below hb))
  rw [List.length_singleton] at HC
  have HL := Lib.hid hb
  have HQ := Lib.hid (laid1 w1 (.cells #[.int .i64 1, .slice a1 1 c1, .bool false] 26))
  clear hF hB HN HW hb
  go_wp2_with fail
  with_reducible refine HC.out.mono ?_
  rintro e w2 ⟨a2, c2, rfl, hF, hB⟩
  have hq := (hB.block w1.heap.size (by simp)).trans HQ.out
  have hs2 := hB.size
  simp only [World.size_alloc] at hs2
  obtain ⟨⟨p0, p1, p2⟩, p3, p4, p5⟩ := box3 hq
  -- Take
  have HT := Lib.hid (take_any 1 true _ 0 ⟨1, 3, 0, 0, ⟨#[]⟩, 0⟩ [] (.inr ⟨rfl, rfl⟩) (by decide) a2 c2 _ (set3_far (b := w1.heap.size) hF (by simp) (.int .i64 1) (.slice a2 1 c2) (.bool true)).row)
  simp only [Lt.v] at HT
  have HB2 := Lib.hid (set3_below (b := w1.heap.size) (HB1.out.trans ((HL.out.mono hs1).trans (hB.mono (by simp; omega)))) hs1 (.int .i64 1) (.slice a2 1 c2) (.bool true))
  have HQ2 := Lib.hid (set3_at hq (.int .i64 1) (.slice a2 1 c2) (.bool true))
  rw [List.length_singleton, List.length_nil] at HT
  have hs2' := set3_size w2 w1.heap.size (.int .i64 1) (.slice a2 1 c2) (.bool true)
  clear hF hB hq HC HQ HL
  generalize hW : set3 w2 w1.heap.size (.int .i64 1) (.slice a2 1 c2) (.bool true) = W at *
  unfold set3 at hW
  obtain ⟨⟨q0, q1, q2⟩, q3, q4, q5⟩ := box3 HQ2.out
  go_wp2_with fail
  with_reducible refine HT.out.mono ?_
  rintro e w3 ⟨a3, c3, rfl, hF, hB⟩
  have hs3 := hB.size
  have hq := (hB.block w1.heap.size (by omega)).trans HQ2.out
  have hq := (Below.heap_alloc w3 (.cells #[.int .i8 1, .int .i64 3, .int .i64 0, .int .i64 0, .string ⟨#[]⟩, .int .i64 0] 32) w1.heap.size (by omega)).trans hq
  obtain ⟨⟨r0, r1, r2⟩, r3, r4, r5⟩ := box3 hq
  have hl := laid1 w3 (.cells #[.int .i8 1, .int .i64 3, .int .i64 0, .int .i64 0, .string ⟨#[]⟩, .int .i64 0] 32)
  have hb := HB2.out.trans ((hB.mono (by omega)).alloc (by omega) (.cells #[.int .i8 1, .int .i64 3, .int .i64 0, .int .i64 0, .string ⟨#[]⟩, .int .i64 0] 32))
  have hF := hF.below ((Below.refl _ _).alloc (Nat.le_refl _) (.cells #[.int .i8 1, .int .i64 3, .int .i64 0, .int .i64 0, .string ⟨#[]⟩, .int .i64 0] 32))
  -- Take again
  have HT := Lib.hid (take_any 1 true _ 0 Lt.zero [] (.inl ⟨rfl, rfl, rfl, rfl⟩) (by decide) a3 c3 _ (set3_far (b := w1.heap.size) hF (by omega) (.int .i64 1) (.slice a3 0 c3) (.bool true)).row)
  simp only [Lt.v, Lt.zero, List.length_nil] at HT
  have HB3 := Lib.hid (set3_below (b := w1.heap.size) hb hs1 (.int .i64 1) (.slice a3 0 c3) (.bool true))
  have HQ3 := Lib.hid (set3_at hq (.int .i64 1) (.slice a3 0 c3) (.bool true))
  have HL3 := Lib.hid ((set3_other _ w1.heap.size w3.heap.size (.int .i64 1) (.slice a3 0 c3) (.bool true) (by omega)).trans hl)
  have hs3' := set3_size (w3.alloc (.cells #[.int .i8 1, .int .i64 3, .int .i64 0, .int .i64 0, .string ⟨#[]⟩, .int .i64 0] 32)) w1.heap.size (.int .i64 1) (.slice a3 0 c3) (.bool true)
  rw [World.size_alloc] at hs3'
  clear hF hB hq hl hb p0 p1 p2 p3 p4 p5
  generalize hW3 : set3 (w3.alloc (.cells #[.int .i8 1, .int .i64 3, .int .i64 0, .int .i64 0, .string ⟨#[]⟩, .int .i64 0] 32)) w1.heap.size (.int .i64 1) (.slice a3 0 c3) (.bool true) = W3 at *
  unfold set3 at hW3
  obtain ⟨⟨q0, q1, q2⟩, q3, q4, q5⟩ := box3 HQ3.out
  go_wp2_with fail
  with_reducible refine HT.out.mono ?_
  rintro e w4 ⟨a4, c4, rfl, hF, hB⟩
  have hs4 := hB.size
  have hl := (hB.block w3.heap.size (by omega)).trans HL3.out
  have hb := below3 w4 (.cells #[.int .i8 0, .int .i64 0, .int .i64 0, .int .i64 0, .string ⟨#[]⟩, .int .i64 0] 32) (.cells #[.int .i64 1, .slice a4 0 c4, .bool true] 26) (.cells #[.int .i8 0, .int .i64 0, .int .i64 0, .int .i64 0, .string ⟨#[]⟩, .int .i64 0] 32)
  have hm := (laid3 w4 (.cells #[.int .i8 0, .int .i64 0, .int .i64 0, .int .i64 0, .string ⟨#[]⟩, .int .i64 0] 32) (.cells #[.int .i64 1, .slice a4 0 c4, .bool true] 26) (.cells #[.int .i8 0, .int .i64 0, .int .i64 0, .int .i64 0, .string ⟨#[]⟩, .int .i64 0] 32)).1
  have HL4 := Lib.hid ((hb.block w3.heap.size (by omega)).trans hl)
  have HM4 := Lib.hid hm
  have HB4 := Lib.hid ((HB3.out.trans (hB.mono (by omega))).trans (hb.mono (by omega)))
  -- Put where there is no room
  have HP := Lib.hid (put_any 0 false [] [⟨0, 0, 0, 0, ⟨#[]⟩, 0⟩] 50 [] (.inr (.inl ⟨rfl, by simp [roomB], rfl, rfl⟩)) (by decide) (by simp) none (some ⟨w4.heap.size + 1 + 1, 0, none⟩) 0 1 _ (row_none _) (by have h := row1v ((w4.alloc (.cells #[.int .i8 0, .int .i64 0, .int .i64 0, .int .i64 0, .string ⟨#[]⟩, .int .i64 0] 32)).alloc (.cells #[.int .i64 1, .slice a4 0 c4, .bool true] 26)) 0 0 0 0 0 ⟨#[]⟩; simp only [World.size_alloc] at h; exact h))
  rw [List.length_singleton, List.length_nil] at HP
  clear hF hB hl hb hm HT
  go_wp2_with fail
  with_reducible refine HP.out.mono ?_
  rintro e w5 ⟨a5, c5, rfl, hF, hB⟩
  have hs5 := hB.size
  simp only [World.size_alloc] at hs5
  have hb5 := (Below.refl w5.heap.size w5).alloc (Nat.le_refl _) (.cells #[.int .i64 0, .slice a5 0 c5, .bool false] 26)
  have HT := Lib.hid (take_any 0 false [] 51 Lt.zero [] (.inl ⟨rfl, rfl, rfl, rfl⟩) (by decide) none 0 _ ((row_none (K := LK) w5).below hb5))
  simp only [Lt.v, Lt.zero, List.length_nil] at HT
  have HL5 := Lib.hid ((hb5.block w3.heap.size (by omega)).trans ((hB.block w3.heap.size (by simp; omega)).trans HL4.out))
  have HM5 := Lib.hid ((hb5.block w4.heap.size (by omega)).trans ((hB.block w4.heap.size (by simp; omega)).trans HM4.out))
  have HB5 := Lib.hid ((HB4.out.trans (hB.mono (by simp; omega))).trans (hb5.mono (by omega)))
  clear hF hB hb5 HP
  go_wp2_with fail
  with_reducible refine HT.out.mono ?_
  rintro e w6 ⟨a6, c6, rfl, hF, hB⟩
  have hb := ((Below.refl w6.heap.size w6).alloc (Nat.le_refl _) (.cells #[.int .i8 0, .int .i64 0, .int .i64 0, .int .i64 0, .string ⟨#[]⟩, .int .i64 0] 32)).alloc (by simp) (.cells #[.int .i64 0, .slice a6 0 c6, .bool false] 26)
  have hs6 := hB.size
  simp only [World.size_alloc] at hs6
  have HB6 := Lib.hid ((HB5.out.trans (hB.mono (by simp; omega))).trans (hb.mono (by omega)))
  have hL := (hb.block w3.heap.size (by omega)).trans ((hB.block w3.heap.size (by simp; omega)).trans HL5.out)
  have hM := (hb.block w4.heap.size (by omega)).trans ((hB.block w4.heap.size (by simp; omega)).trans HM5.out)
  obtain ⟨⟨u0, u1, u2, u3, u4, u5⟩, _⟩ := box6 hL
  obtain ⟨⟨v0, v1, v2, v3, v4, v5⟩, _⟩ := box6 hM
  have heq := fun W => eql_letter W Lt.zero Lt.zero
  simp only [Lt.v, Lt.zero] at heq
  have hgd := guard_letter
  have HOf := Lib.hid (of_any 2 2 ((w6.alloc (.cells #[.int .i8 0, .int .i64 0, .int .i64 0, .int .i64 0, .string ⟨#[]⟩, .int .i64 0] 32)).alloc (.cells #[.int .i64 0, .slice a6 0 c6, .bool false] 26)) (by decide))
  clear hF hB hb HT hL hM
  go_wp2_with fail
  with_reducible refine HOf.out.mono ?_
  rintro e w7 ⟨rfl, rfl⟩
  go_wp2_with fail
  go_ret
  exact ⟨rfl, HB6.out⟩
end Go.Proofs.Ytomiajgedcpjiaa
