/- The letter that is handed over. -/
import Derived.Test.YtjiepdgflfhkcaaMore1
set_option linter.unusedSimpArgs false
set_option linter.unusedVariables false
namespace Go.Proofs.Ytjiepdgflfhkcaa
open Go.RowKit Go.Proofs.Ytjiepdgflfhkcaa.Kind Go.Proofs.Ytjiepdgflfhkcaa.P7

set_option maxHeartbeats 8000000 in
set_option maxRecDepth 1000000 in
theorem letter_spec : LetterSpec := by
  intro m hs R a c w x ok hL hR
  obtain ⟨o, ho⟩ : ∃ o, o = (caseP R m.p m.i).getD ofZero := ⟨_, rfl⟩
  obtain ⟨b, hb⟩ : ∃ b, b = (caseP R m.p m.i).isSome := ⟨_, rfl⟩
  obtain ⟨o', ho'⟩ : ∃ o, o = (caseP R m.q m.j).getD ofZero := ⟨_, rfl⟩
  obtain ⟨b', hb'⟩ : ∃ b, b = (caseP R m.q m.j).isSome := ⟨_, rfl⟩
  obtain ⟨r, hr⟩ : ∃ r, r = fitB o o' := ⟨_, rfl⟩
  have HL1 := letter_of m R x ok hL
  have HL2 := letter_not m R x ok hL
  rw [← ho, ← ho', ← hb, ← hb', ← hr] at HL1 HL2
  have HC := Lib.hid (fun w h => case_any m.p m.i hs R o b ho hb a c w h)
  have HC' := Lib.hid (fun w h => case_any m.q m.j hs R o' b' ho' hb' a c w h)
  have HF := Lib.hid (fun w => fit_any o o' r hr w)
  obtain ⟨mp, mi, mq, mj⟩ := m
  dsimp only at HC HC'
  have HB0 := Lib.hid (below2 w (.cells #[.int .i64 mp, .int .i64 mi, .int .i64 mq, .int .i64 mj] 30) (.cells #[.int .i8 0, .int .i64 0, .int .i64 0, .int .i64 0, .string ⟨#[]⟩, .int .i64 0] 36))
  have HL0 := Lib.hid (laid2 w (.cells #[.int .i64 mp, .int .i64 mi, .int .i64 mq, .int .i64 mj] 30) (.cells #[.int .i8 0, .int .i64 0, .int .i64 0, .int .i64 0, .string ⟨#[]⟩, .int .i64 0] 36))
  have HR := Lib.hid hR
  have HC := Lib.hid (HC.out _ (HR.out.below HB0.out))
  have HL1 := Lib.hid HL1
  have HL2 := Lib.hid HL2
  clear hL hR ho hb ho' hb' hr
  go_enter Try.func11, Try.ntmps11
  go_wp2_with fail
  with_reducible refine HC.out.mono ?_
  rintro e w1 ⟨rfl, hq⟩
  have hb1 := below1 w1 (.cells #[.int .i8 o.kind, .int .i64 o.duct, .int .i8 o.m.kind, .int .i64 o.m.fr, .int .i64 o.m.num, .int .i64 o.m.sock, .string o.m.text, .int .i64 o.m.e, .int .i64 o.t] 38)
  have HO1 := Lib.hid (laid1 w1 (.cells #[.int .i8 o.kind, .int .i64 o.duct, .int .i8 o.m.kind, .int .i64 o.m.fr, .int .i64 o.m.num, .int .i64 o.m.sock, .string o.m.text, .int .i64 o.m.e, .int .i64 o.t] 38))
  have HB1 := Lib.hid (HB0.out.trans (hq.mono (by simp <;> omega)))
  have hm1 := (hq.block w.heap.size (by simp <;> omega)).trans HL0.out.1
  have HM1 := Lib.hid hm1
  have HN1 := Lib.hid ((hq.block (w.heap.size + 1) (by simp <;> omega)).trans HL0.out.2)
  have hlt1 : w.heap.size < w1.heap.size := lt_of_block hm1
  have hlt1' : w.heap.size + 1 < w1.heap.size := lt_of_block HN1.out
  obtain ⟨⟨m0, m1, m2, m3⟩, _⟩ := box4 hm1
  have HBX := Lib.hid (HB1.out.trans (hb1.mono HB1.out.size))
  have HNX := Lib.hid ((hb1.block (w.heap.size + 1) hlt1').trans HN1.out)
  have HCX := Lib.hid (HC'.out _ (HR.out.below HBX.out))
  clear hq hb1 hm1 HC HC' HB0 HL0 HM1 HB1 HN1
  go_wp2_with fail
  with_reducible refine HCX.out.mono ?_
  rintro e w2 ⟨rfl, hq⟩
  have hb2 := below1 w2 (.cells #[.int .i8 o'.kind, .int .i64 o'.duct, .int .i8 o'.m.kind, .int .i64 o'.m.fr, .int .i64 o'.m.num, .int .i64 o'.m.sock, .string o'.m.text, .int .i64 o'.m.e, .int .i64 o'.t] 38)
  have hlt2 : w1.heap.size < w2.heap.size := by have := hq.size; simp at this; omega
  have hlt2' : w.heap.size + 1 < w2.heap.size := by omega
  have ho2 := (hq.block w1.heap.size (by simp <;> omega)).trans HO1.out
  have hn2 := (hq.block (w.heap.size + 1) (by simp <;> omega)).trans HNX.out
  have HB2 := Lib.hid (HBX.out.trans (hq.mono HBX.out.size))
  obtain ⟨c0, c1, c2, c3, c4, c5, c6, c7, c8⟩ := box9 ho2
  obtain ⟨⟨n0, n1, n2, n3, n4, n5⟩, g0, g1, g2, g3, g4, g5⟩ := box6 hn2
  have HN2 := Lib.hid hn2
  have HO2 := Lib.hid ho2
  have HB2' := Lib.hid (HB2.out.trans (hb2.mono HB2.out.size))
  have HN2' := Lib.hid ((hb2.block (w.heap.size + 1) hlt2').trans HN2.out)
  have HO2' := Lib.hid ((hb2.block w1.heap.size hlt2).trans HO2.out)
  have HFX := Lib.hid (HF.out (w2.alloc (.cells #[.int .i8 o'.kind, .int .i64 o'.duct, .int .i8 o'.m.kind, .int .i64 o'.m.fr, .int .i64 o'.m.num, .int .i64 o'.m.sock, .string o'.m.text, .int .i64 o'.m.e, .int .i64 o'.t] 38)))
  clear hq hb2 ho2 hn2 HCX HO1 HNX HBX HR HF HB2 m0 m1 m2 m3
  by_cases h1 : b = true ∧ b' = true
  · obtain ⟨rfl, rfl⟩ := h1
    have HL3 := Lib.hid (HL1.out rfl rfl)
    have HL4 := Lib.hid (fun h : r = false => HL2.out (by simp [h]))
    clear HL1 HL2
    go_wp2_with fail
    with_reducible refine HFX.out.mono ?_
    rintro e w3 ⟨rfl, hq⟩
    have hlt3 : w2.heap.size < w3.heap.size := by have := hq.size; simp at this; omega
    have hlt3' : w.heap.size + 1 < w3.heap.size := by omega
    have hlt3'' : w1.heap.size < w3.heap.size := by omega
    have ho3 := (hq.block w1.heap.size (by simp <;> omega)).trans HO2'.out
    have hn3 := (hq.block (w.heap.size + 1) (by simp <;> omega)).trans HN2'.out
    have HB3 := Lib.hid (HB2'.out.trans (hq.mono HB2'.out.size))
    have HN3 := Lib.hid hn3
    clear c0 c1 c2 c3 c4 c5 c6 c7 c8 n0 n1 n2 n3 n4 n5 g0 g1 g2 g3 g4 g5
    obtain ⟨c0, c1, c2, c3, c4, c5, c6, c7, c8⟩ := box9 ho3
    obtain ⟨⟨n0, n1, n2, n3, n4, n5⟩, g0, g1, g2, g3, g4, g5⟩ := box6 hn3
    clear hq HFX HN2' HO2' HB2' HN2 HO2 ho3 hn3
    cases r with
    | true =>
      obtain ⟨rfl, rfl⟩ := HL3.out rfl
      clear HL3 HL4
      go_wp2_with fail
      change bodyPost _ _ _ _ _ (set6 w3 (w.heap.size + 1) (.int .i8 o.m.kind) (.int .i64 o.m.fr) (.int .i64 o.m.num) (.int .i64 o.m.sock) (.string o.m.text) (.int .i64 o.m.e))
      refine bodyPost_ret (res_cell_tmp rfl _ _ _ (w.heap.size + 1) rfl _ (load6 (set6_at HN3.out _ _ _ _ _ _))) rfl ?_
      exact ⟨rfl, set6_below HB3.out (by omega) _ _ _ _ _ _⟩
    | false =>
      have HX := Lib.hid (HL4.out rfl)
      clear HL3 HL4
      go_wp2_with fail
      change bodyPost _ _ _ _ _ (set6 w3 (w.heap.size + 1) (.int .i8 0) (.int .i64 0) (.int .i64 0) (.int .i64 0) (.string ⟨#[]⟩) (.int .i64 0))
      refine bodyPost_ret (res_cell_tmp rfl _ _ _ (w.heap.size + 1) rfl _ (load6 (x := Lt.zero) (set6_at HN3.out _ _ _ _ _ _))) rfl ?_
      obtain ⟨e1, e2⟩ := HX.out
      exact ⟨by first | rfl | (subst e1; subst e2; rfl) | (simp only [e1, e2]; rfl), set6_below HB3.out (by omega) _ _ _ _ _ _⟩
  · have HX := Lib.hid (HL2.out (fun h => h1 ⟨h.1, h.2.1⟩))
    clear HL1 HL2 HFX c0 c1 c2 c3 c4 c5 c6 c7 c8
    have h2 : b = false ∨ (b = true ∧ b' = false) := by cases b <;> cases b' <;> simp_all
    clear h1
    go_upto_region 3 with fail
    clear n0 n1 n2 n3 n4 n5 g0 g1 g2 g3 g4 g5
    obtain ⟨⟨n0, n1, n2, n3, n4, n5⟩, g0, g1, g2, g3, g4, g5⟩ := box6 HN2'.out
    generalize w2.alloc (.cells #[.int .i8 o'.kind, .int .i64 o'.duct, .int .i8 o'.m.kind, .int .i64 o'.m.fr, .int .i64 o'.m.num, .int .i64 o'.m.sock, .string o'.m.text, .int .i64 o'.m.e, .int .i64 o'.t] 38) = W3 at *
    rcases h2 with rfl | ⟨rfl, rfl⟩
    all_goals
      go_wp2_with fail
      change bodyPost _ _ _ _ _ (set6 W3 (w.heap.size + 1) (.int .i8 0) (.int .i64 0) (.int .i64 0) (.int .i64 0) (.string ⟨#[]⟩) (.int .i64 0))
      refine bodyPost_ret (res_cell_tmp rfl _ _ _ (w.heap.size + 1) rfl _ (load6 (x := Lt.zero) (set6_at HN2'.out _ _ _ _ _ _))) rfl ?_
      obtain ⟨e1, e2⟩ := HX.out
      exact ⟨by first | rfl | (subst e1; subst e2; rfl) | (simp only [e1, e2]; rfl), set6_below HB2'.out (by omega) _ _ _ _ _ _⟩
end Go.Proofs.Ytjiepdgflfhkcaa
