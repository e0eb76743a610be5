/- The document's own answers about what is known: entries made. -/
import Derived.Test.YtaealoodchkeaaaRefM
set_option linter.unusedSimpArgs false
set_option linter.unusedVariables false
namespace Go.Proofs.Ytaealoodchkeaaa
open R3 Go.RowKit Go.Proofs.Ytaealoodchkeaaa.Kind

/-- api.Conf. -/
structure Cf where
  perHost : Int
  idle : Int
  waiters : Int
  attempts : Int
  stagger : Int
  idleAge : Int
  ttl : Int
  negTTL : Int
  scarAge : Int
def Cf.v (x : Cf) : Value := .agg #[.int .i64 x.perHost, .int .i64 x.idle, .int .i64 x.waiters, .int .i64 x.attempts, .int .i64 x.stagger, .int .i64 x.idleAge, .int .i64 x.ttl, .int .i64 x.negTTL, .int .i64 x.scarAge]
def Cf.cells (x : Cf) : Array Value := #[.int .i64 x.perHost, .int .i64 x.idle, .int .i64 x.waiters, .int .i64 x.attempts, .int .i64 x.stagger, .int .i64 x.idleAge, .int .i64 x.ttl, .int .i64 x.negTTL, .int .i64 x.scarAge]

set_option maxHeartbeats 8000000 in
set_option maxRecDepth 1000000 in
theorem rentry_any (x : Cf) (s row : ByteArray) (e now : Int) (y : Kn) (hy : y = entryK x.ttl x.negTTL s row e now) (w : World) :
    Calls Try.prog 15 #[x.v, .string s, .string row, .int .i64 e, .int .i64 now] w fun e w' => e = .returned y.v ∧ Below w.heap.size w w' := by
  have HY := Lib.hid hy
  clear hy
  simp only [Cf.v]
  by_cases he : e = 0
  · subst he
    have H1 := Lib.hid (show y = ⟨s, row, 0, P.later now [x.ttl]⟩ by rw [HY.out]; rfl)
    clear HY
    go_enter Try.func15, Try.ntmps15
    go_wp2_with fail
    have HN := Lib.hid (laid2 w (.cells #[.int .i64 x.perHost, .int .i64 x.idle, .int .i64 x.waiters, .int .i64 x.attempts, .int .i64 x.stagger, .int .i64 x.idleAge, .int .i64 x.ttl, .int .i64 x.negTTL, .int .i64 x.scarAge] 23) (.cells #[.string { data := #[] }, .string { data := #[] }, .int .i64 0, .int .i64 0] 29)).2
    have HB := Lib.hid (below2 w (.cells #[.int .i64 x.perHost, .int .i64 x.idle, .int .i64 x.waiters, .int .i64 x.attempts, .int .i64 x.stagger, .int .i64 x.idleAge, .int .i64 x.ttl, .int .i64 x.negTTL, .int .i64 x.scarAge] 23) (.cells #[.string { data := #[] }, .string { data := #[] }, .int .i64 0, .int .i64 0] 29))
    have hWs : ((w.alloc (.cells #[.int .i64 x.perHost, .int .i64 x.idle, .int .i64 x.waiters, .int .i64 x.attempts, .int .i64 x.stagger, .int .i64 x.idleAge, .int .i64 x.ttl, .int .i64 x.negTTL, .int .i64 x.scarAge] 23)).alloc (.cells #[.string { data := #[] }, .string { data := #[] }, .int .i64 0, .int .i64 0] 29)).heap.size = w.heap.size + 1 + 1 := by simp
    obtain ⟨W, hW⟩ : ∃ W, W = (w.alloc (.cells #[.int .i64 x.perHost, .int .i64 x.idle, .int .i64 x.waiters, .int .i64 x.attempts, .int .i64 x.stagger, .int .i64 x.idleAge, .int .i64 x.ttl, .int .i64 x.negTTL, .int .i64 x.scarAge] 23)).alloc (.cells #[.string { data := #[] }, .string { data := #[] }, .int .i64 0, .int .i64 0] 29) := ⟨_, rfl⟩
    rw [← hW] at HN HB hWs ⊢
    clear hW
    have HC : Calls Try.prog 32 #[.int .i64 now, .slice (some ⟨w.heap.size + 1 + 1, 0, none⟩) 1 1] (W.alloc (.cells #[.int .i64 x.ttl] 3)) fun e w' => e = .returned (.int .i64 (P.later now [x.ttl])) ∧ w' = W.alloc (.cells #[.int .i64 x.ttl] 3) :=
      rlater_any now [x.ttl] (some ⟨w.heap.size + 1 + 1, 0, none⟩) 1 _ (by simp) (rowI_of (rowC_at (K := IK) W 3 [x.ttl] _ _ 1 hWs.symm rfl rfl (by simp)))
    with_reducible refine HC.mono ?_
    clear HC
    rintro e w1 ⟨rfl, hw⟩
    have hB2 : Below (w.heap.size + 1 + 1) W w1 := by rw [hw]; exact (Below.refl _ W).alloc (by omega) _
    clear hw
    have HZ := Lib.hid ((hB2.block _ (by omega)).trans HN.out)
    have HB3 := Lib.hid (HB.out.trans (hB2.mono (by omega)))
    obtain ⟨⟨x0, x1, x2, x3⟩, y0, y1, y2, y3⟩ := boxes4 HZ.out
    clear hB2
    go_wp2_with fail
    obtain rfl := H1.out
    refine bodyPost_ret (res_cell rfl _ _ _ (w.heap.size + 1) rfl _ (load_Kn (x := ⟨s, row, 0, P.later now [x.ttl]⟩) (set4_at HZ.out (.string s) (.string row) (.int .i64 0) (.int .i64 (P.later now [x.ttl]))))) rfl ?_
    exact ⟨rfl, set4_below HB3.out (by omega) _ _ _ _⟩
  · have H1 := Lib.hid (show y = ⟨s, .empty, e, P.later now [x.negTTL]⟩ by rw [HY.out]; unfold entryK; rw [if_neg he])
    clear HY
    go_enter Try.func15, Try.ntmps15
    go_wp2_with fail
    have HN := Lib.hid (laid2 w (.cells #[.int .i64 x.perHost, .int .i64 x.idle, .int .i64 x.waiters, .int .i64 x.attempts, .int .i64 x.stagger, .int .i64 x.idleAge, .int .i64 x.ttl, .int .i64 x.negTTL, .int .i64 x.scarAge] 23) (.cells #[.string { data := #[] }, .string { data := #[] }, .int .i64 0, .int .i64 0] 29)).2
    have HB := Lib.hid (below2 w (.cells #[.int .i64 x.perHost, .int .i64 x.idle, .int .i64 x.waiters, .int .i64 x.attempts, .int .i64 x.stagger, .int .i64 x.idleAge, .int .i64 x.ttl, .int .i64 x.negTTL, .int .i64 x.scarAge] 23) (.cells #[.string { data := #[] }, .string { data := #[] }, .int .i64 0, .int .i64 0] 29))
    have hWs : ((w.alloc (.cells #[.int .i64 x.perHost, .int .i64 x.idle, .int .i64 x.waiters, .int .i64 x.attempts, .int .i64 x.stagger, .int .i64 x.idleAge, .int .i64 x.ttl, .int .i64 x.negTTL, .int .i64 x.scarAge] 23)).alloc (.cells #[.string { data := #[] }, .string { data := #[] }, .int .i64 0, .int .i64 0] 29)).heap.size = w.heap.size + 1 + 1 := by simp
    obtain ⟨W, hW⟩ : ∃ W, W = (w.alloc (.cells #[.int .i64 x.perHost, .int .i64 x.idle, .int .i64 x.waiters, .int .i64 x.attempts, .int .i64 x.stagger, .int .i64 x.idleAge, .int .i64 x.ttl, .int .i64 x.negTTL, .int .i64 x.scarAge] 23)).alloc (.cells #[.string { data := #[] }, .string { data := #[] }, .int .i64 0, .int .i64 0] 29) := ⟨_, rfl⟩
    rw [← hW] at HN HB hWs ⊢
    clear hW
    have HC : Calls Try.prog 32 #[.int .i64 now, .slice (some ⟨w.heap.size + 1 + 1, 0, none⟩) 1 1] (W.alloc (.cells #[.int .i64 x.negTTL] 3)) fun e w' => e = .returned (.int .i64 (P.later now [x.negTTL])) ∧ w' = W.alloc (.cells #[.int .i64 x.negTTL] 3) :=
      rlater_any now [x.negTTL] (some ⟨w.heap.size + 1 + 1, 0, none⟩) 1 _ (by simp) (rowI_of (rowC_at (K := IK) W 3 [x.negTTL] _ _ 1 hWs.symm rfl rfl (by simp)))
    with_reducible refine HC.mono ?_
    clear HC
    rintro e w1 ⟨rfl, hw⟩
    have hB2 : Below (w.heap.size + 1 + 1) W w1 := by rw [hw]; exact (Below.refl _ W).alloc (by omega) _
    clear hw
    have HZ := Lib.hid ((hB2.block _ (by omega)).trans HN.out)
    have HB3 := Lib.hid (HB.out.trans (hB2.mono (by omega)))
    obtain ⟨⟨x0, x1, x2, x3⟩, y0, y1, y2, y3⟩ := boxes4 HZ.out
    clear hB2
    go_wp2_with fail
    obtain rfl := H1.out
    refine bodyPost_ret (res_cell rfl _ _ _ (w.heap.size + 1) rfl _ (load_Kn (x := ⟨s, .empty, e, P.later now [x.negTTL]⟩) (set4_at HZ.out (.string s) (.string { data := #[] }) (.int .i64 e) (.int .i64 (P.later now [x.negTTL]))))) rfl ?_
    exact ⟨rfl, set4_below HB3.out (by omega) _ _ _ _⟩
end Go.Proofs.Ytaealoodchkeaaa
