/- Take. -/
import Derived.Test.YtomiajgedcpjiaaTake
set_option linter.unusedSimpArgs false
set_option linter.unusedVariables false
namespace Go.Proofs.Ytomiajgedcpjiaa
open Go.RowKit Go.Proofs.Ytomiajgedcpjiaa.Kind

theorem loadVar_letter {w : World} {b : Nat} {k f n s e : Int} {x : ByteArray} (c0 : w.cell? ⟨b, 0, none⟩ = some (.int .i8 k)) (c1 : w.cell? ⟨b, 1, none⟩ = some (.int .i64 f)) (c2 : w.cell? ⟨b, 2, none⟩ = some (.int .i64 n)) (c3 : w.cell? ⟨b, 3, none⟩ = some (.int .i64 s)) (c4 : w.cell? ⟨b, 4, none⟩ = some (.string x)) (c5 : w.cell? ⟨b, 5, none⟩ = some (.int .i64 e)) :
    (loadVar 32 ⟨b, 0, none⟩).run Try.prog w = .ok (.agg #[.int .i8 k, .int .i64 f, .int .i64 n, .int .i64 s, .string x, .int .i64 e]) w := by
  have a3 := Try.isAgg32
  have z3 := Try.sizeOf32
  simp [loadVar, go_sem, *]
theorem load6 {w : World} {b : Nat} {k f n s e : Int} {x : ByteArray} {t : TypeId} (h : w.heap[b]? = some (.cells #[.int .i8 k, .int .i64 f, .int .i64 n, .int .i64 s, .string x, .int .i64 e] t (0, 0))) :
    (loadVar 32 ⟨b, 0, none⟩).run Try.prog w = .ok (.agg #[.int .i8 k, .int .i64 f, .int .i64 n, .int .i64 s, .string x, .int .i64 e]) w := by
  obtain ⟨⟨c0, c1, c2, c3, c4, c5⟩, _⟩ := box6 h
  exact loadVar_letter c0 c1 c2 c3 c4 c5
theorem res_cell_cell_tmp {fn : Func} {p q u : Tmp} {ty tz : TypeId} (h : fn.results = #[.cell p ty, .cell q tz, .tmp u]) (tmps : Array Value) (Pr : Program) (w : World) (b d : Nat) (hp : tmps.getD p undef = .pointer (some ⟨b, 0, none⟩)) (hq : tmps.getD q undef = .pointer (some ⟨d, 0, none⟩)) (v x : Value) (hl : (loadVar ty ⟨b, 0, none⟩).run Pr w = .ok v w) (hx : (loadVar tz ⟨d, 0, none⟩).run Pr w = .ok x w) :
    (results fn tmps).run Pr w = .ok (.tuple #[v, x, tmps.getD u undef]) w := by
  simp only [results, h]
  simp [Sem.run_bind, Result.andThen]
  simp at hp hq
  rw [hp, hq, show (asAddr (.pointer (some ⟨b, 0, none⟩))).run Pr w = .ok ⟨b, 0, none⟩ w from rfl]
  simp only [Result.andThen_ok, hl]
  rw [show (asAddr (.pointer (some ⟨d, 0, none⟩))).run Pr w = .ok ⟨d, 0, none⟩ w from rfl]
  simp only [Result.andThen_ok, hx]

theorem take_end {w0 w' V : World} {n : Nat} {x y z x0 y0 z0 u0 u1 u2 u3 u4 u5 : Value} {t t6 : TypeId} {m : Lt} {a : Option Addr} {c : Nat} {L : List Lt} (hV : V = set3 (set6 (set3 w' (n + 1 + 1) x y z) (n + 1) m) (n + 1 + 1) x y z) (h1 : w'.heap[n + 2]? = some (.cells #[x0, y0, z0] t (0, 0)))
    (h2 : w'.heap[n + 1]? = some (.cells #[u0, u1, u2, u3, u4, u5] t6 (0, 0))) (h3 : LK.FarC w' (n + 5) a c L) (h4 : Below n w0 w') :
    (V.drew.heap[n + 1]? = some (.cells #[.int .i8 m.kind, .int .i64 m.fr, .int .i64 m.num, .int .i64 m.sock, .string m.text, .int .i64 m.e] t6 (0, 0)) ∧ V.drew.heap[n + 1 + 1]? = some (.cells #[x, y, z] t (0, 0))) ∧ LK.FarC V.drew n a c L ∧ Below n w0 V.drew := by
  have e1 := set3_at (set3_at h1 x y z) x y z
  have e1 := set3_at ((set6_other (set3 w' (n + 1 + 1) x y z) (n + 1) (n + 1 + 1) m (by omega)).trans (set3_at h1 x y z)) x y z
  have e2 := (set3_other (set6 (set3 w' (n + 1 + 1) x y z) (n + 1) m) (n + 1 + 1) (n + 1) x y z (by omega)).trans (set6_at ((set3_other w' (n + 1 + 1) (n + 1) x y z (by omega)).trans h2) m)
  have e3 := (set3_far (set6_far (set3_far h3 (by omega : n + 1 + 1 < n + 5) x y z) (by omega : n + 1 < n + 5) m) (by omega : n + 1 + 1 < n + 5) x y z).mono (by omega : n ≤ n + 5)
  have e4 := set3_below (set6_below (set3_below h4 (by omega : n ≤ n + 1 + 1) x y z) (by omega : n ≤ n + 1) m) (by omega : n ≤ n + 1 + 1) x y z
  rw [← hV] at e1 e2 e3 e4
  exact ⟨⟨e2, e1⟩, e3.draw, e4.drew⟩

set_option maxHeartbeats 4000000 in
set_option maxRecDepth 1000000 in
theorem take_any (cap : Int) (cl : Bool) (l : List Lt) (er : Int) (m : Lt) (L : List Lt) (hR : TakeR cl l er m L) (hm : mayB cap l.length = true) (a : Option Addr) (c : Nat) (w : World) (hA : LK.RowC w a c l) :
    Calls Try.prog 10 #[.agg #[.int .i64 cap, .slice a l.length c, .bool cl]] w fun e w' => ∃ a' c', e = .returned (.tuple #[m.v, .agg #[.int .i64 cap, .slice a' L.length c', .bool cl], .int .i64 er]) ∧ LK.FarC w' w.heap.size a' c' L ∧ Below w.heap.size w w' := by
  have hml := mayB_le hm
  have HA := Lib.hid hA
  have HM := Lib.hid hm
  have HR := Lib.hid hR
  clear hA hm hR
  go_enter Try.func10, Try.ntmps10
  go_wp2_with fail
  have HD := Lib.hid (do_may 29 #[.pointer (some ⟨w.heap.size + 1, 0, none⟩)] cap cl l a c (((w.alloc (.cells #[.int .i64 cap, .slice a l.length c, .bool cl] 26)).alloc (.cells #[.int .i8 0, .int .i64 0, .int .i64 0, .int .i64 0, .string ⟨#[]⟩, .int .i64 0] 32)).alloc (.cells #[.int .i64 0, .slice none 0 0, .bool false] 26)) (enter_fn Try.func29 (by kernel_rfl) rfl) HM.out (by omega) (HA.out.below (below3 w _ _ _)) er cl L
    (fun W1 W2 => W2.heap[w.heap.size + 1]? = some (.cells #[.int .i8 m.kind, .int .i64 m.fr, .int .i64 m.num, .int .i64 m.sock, .string m.text, .int .i64 m.e] 32 (0, 0)) ∧ Below (w.heap.size + 1) W1 W2 ∧ W2.heap[w.heap.size + 2]? = W1.heap[w.heap.size + 2]?) (by
    intro W g a1 c1 h1 h2 h3 h4 h5
    have h6 : Below (w.heap.size + 3) _ W := h3.mono (by simp)
    have h7 : w.heap.size + 3 + 2 ≤ g := by simpa using h1
    refine (take1_any cap cl l er m L HR.out (by omega) a1 c1 g (w.heap.size + 1) (w.heap.size + 3 + 2) W h4 ((h6.block _ (by omega)).trans (laid3 w _ _ _).2.1) (h5.mono (by simp)) h7 (by omega)).mono ?_
    rintro e W' ⟨a2, c2, rfl, g1, g2, g3, g4, g5⟩
    exact ⟨a2, c2, rfl, g1, g2.mono (by simp), g5 _ (by simp; omega) (by simp; omega) (by simp; try omega), g3, g4, g5 _ (by omega) (by omega) (by omega)⟩))
  with_reducible refine HD.out.mono ?_
  rintro e w' ⟨a1, c1, W1, W2, rfl, hf, hb, ⟨hr1, hr2, hr3⟩, hw⟩
  have HF := Lib.hid (hf.mono (b2 := w.heap.size + 5) (by simp))
  have hb : Below (w.heap.size + 3) _ W1 := hb.mono (by simp)
  have hB : Below (w.heap.size + 1) (((w.alloc (.cells #[.int .i64 cap, .slice a l.length c, .bool cl] 26)).alloc (.cells #[.int .i8 0, .int .i64 0, .int .i64 0, .int .i64 0, .string ⟨#[]⟩, .int .i64 0] 32)).alloc (.cells #[.int .i64 0, .slice none 0 0, .bool false] 26)) w' := by
    rw [hw]
    exact set3_below ((hb.mono (by omega)).trans hr2) (by simp; try omega) _ _ _
  have HB := Lib.hid ((below3 w _ _ _).trans (hB.mono (by omega)))
  have hQ := (hr3.trans (hb.block _ (by omega))).trans (laid3 w _ _ _).2.2
  have hQ := (set3_other W2 (w.heap.size + 4) (w.heap.size + 2) (.int .i64 cap) (.slice a1 L.length c1) (.bool cl) (by omega)).trans hQ
  have hP := (set3_other W2 (w.heap.size + 4) (w.heap.size + 1) (.int .i64 cap) (.slice a1 L.length c1) (.bool cl) (by omega)).trans hr1
  simp only [World.size_alloc] at hw
  rw [← hw] at hQ hP
  have HQ := Lib.hid hQ
  have HP := Lib.hid hP
  obtain ⟨⟨p0, p1, p2⟩, p3, p4, p5⟩ := box3 hQ
  obtain ⟨⟨q0, q1, q2, q3, q4, q5⟩, r0, r1, r2, r3, r4, r5⟩ := box6 hP
  clear hf hb hr1 hr2 hr3 hw hB hQ hP HD
  go_wp2_with fail
  have HH := Lib.hid (take_end (x := .int .i64 cap) (y := .slice a1 L.length c1) (z := .bool cl) (m := m) rfl HQ.out HP.out HF.out HB.out)
  unfold set3 set6 at HH
  go_region
  go_wp2_with fail
  refine bodyPost_ret (res_cell_cell_tmp rfl _ _ _ (w.heap.size + 1) (w.heap.size + 1 + 1) rfl rfl _ _ (load6 HH.out.1.1) (load3 HH.out.1.2)) rfl ?_
  exact ⟨a1, c1, rfl, HH.out.2⟩
end Go.Proofs.Ytomiajgedcpjiaa
