/- The landed package cache: Entry, Get, Fresh, Until, May. -/
import Derived.Test.YtaealoodchkeaaaLand
import Derived.Test.YtaealoodchkeaaaRefO
set_option linter.unusedSimpArgs false
set_option linter.unusedVariables false
namespace Go.Proofs.Ytaealoodchkeaaa
open R3 Go.RowKit Go.Proofs.Ytaealoodchkeaaa.Kind

set_option maxHeartbeats 8000000 in
set_option maxRecDepth 1000000 in
theorem entry_any (x : Cf) (s row : ByteArray) (e now : Int) (y : Kn) (hy : y = entryK x.ttl x.negTTL s row e now) (w : World) :
    Calls Try.prog 14 #[x.v, .string s, .string row, .int .i64 e, .int .i64 now] w fun e w' => e = .returned y.v ∧ Below w.heap.size w w' := by
  have HY := Lib.hid hy
  clear hy
  simp only [Cf.v]
  by_cases he : e = 0
  · subst he
    have H1 := Lib.hid (show y = ⟨s, row, 0, P.later now [x.ttl]⟩ by rw [HY.out]; rfl)
    clear HY
    go_enter Try.func14, Try.ntmps14
    go_wp2_with fail
    have HN := Lib.hid (laid2 w (.cells #[.int .i64 x.perHost, .int .i64 x.idle, .int .i64 x.waiters, .int .i64 x.attempts, .int .i64 x.stagger, .int .i64 x.idleAge, .int .i64 x.ttl, .int .i64 x.negTTL, .int .i64 x.scarAge] 23) (.cells #[.string { data := #[] }, .string { data := #[] }, .int .i64 0, .int .i64 0] 29)).2
    have HB := Lib.hid (below2 w (.cells #[.int .i64 x.perHost, .int .i64 x.idle, .int .i64 x.waiters, .int .i64 x.attempts, .int .i64 x.stagger, .int .i64 x.idleAge, .int .i64 x.ttl, .int .i64 x.negTTL, .int .i64 x.scarAge] 23) (.cells #[.string { data := #[] }, .string { data := #[] }, .int .i64 0, .int .i64 0] 29))
    have hWs : ((w.alloc (.cells #[.int .i64 x.perHost, .int .i64 x.idle, .int .i64 x.waiters, .int .i64 x.attempts, .int .i64 x.stagger, .int .i64 x.idleAge, .int .i64 x.ttl, .int .i64 x.negTTL, .int .i64 x.scarAge] 23)).alloc (.cells #[.string { data := #[] }, .string { data := #[] }, .int .i64 0, .int .i64 0] 29)).heap.size = w.heap.size + 1 + 1 := by simp
    obtain ⟨W, hW⟩ : ∃ W, W = (w.alloc (.cells #[.int .i64 x.perHost, .int .i64 x.idle, .int .i64 x.waiters, .int .i64 x.attempts, .int .i64 x.stagger, .int .i64 x.idleAge, .int .i64 x.ttl, .int .i64 x.negTTL, .int .i64 x.scarAge] 23)).alloc (.cells #[.string { data := #[] }, .string { data := #[] }, .int .i64 0, .int .i64 0] 29) := ⟨_, rfl⟩
    rw [← hW] at HN HB hWs ⊢
    clear hW
    have HC : Calls Try.prog 31 #[.int .i64 now, .slice (some ⟨w.heap.size + 1 + 1, 0, none⟩) 1 1] (W.alloc (.cells #[.int .i64 x.ttl] 3)) fun e w' => e = .returned (.int .i64 (P.later now [x.ttl])) ∧ w' = W.alloc (.cells #[.int .i64 x.ttl] 3) :=
      later_any now [x.ttl] (some ⟨w.heap.size + 1 + 1, 0, none⟩) 1 _ (by simp) (rowI_of (rowC_at (K := IK) W 3 [x.ttl] _ _ 1 hWs.symm rfl rfl (by simp)))
    with_reducible refine HC.mono ?_
    clear HC
    rintro e w1 ⟨rfl, hw⟩
    have hB2 : Below (w.heap.size + 1 + 1) W w1 := by rw [hw]; exact (Below.refl _ W).alloc (by omega) _
    clear hw
    have HZ := Lib.hid ((hB2.block _ (by omega)).trans HN.out)
    have HB3 := Lib.hid (HB.out.trans (hB2.mono (by omega)))
    obtain ⟨⟨x0, x1, x2, x3⟩, y0, y1, y2, y3⟩ := boxes4 HZ.out
    clear hB2
    go_wp2_with fail
    obtain rfl := H1.out
    refine bodyPost_ret (res_cell rfl _ _ _ (w.heap.size + 1) rfl _ (load_Kn (x := ⟨s, row, 0, P.later now [x.ttl]⟩) (set4_at HZ.out (.string s) (.string row) (.int .i64 0) (.int .i64 (P.later now [x.ttl]))))) rfl ?_
    exact ⟨rfl, set4_below HB3.out (by omega) _ _ _ _⟩
  · have H1 := Lib.hid (show y = ⟨s, .empty, e, P.later now [x.negTTL]⟩ by rw [HY.out]; unfold entryK; rw [if_neg he])
    clear HY
    go_enter Try.func14, Try.ntmps14
    go_wp2_with fail
    have HN := Lib.hid (laid2 w (.cells #[.int .i64 x.perHost, .int .i64 x.idle, .int .i64 x.waiters, .int .i64 x.attempts, .int .i64 x.stagger, .int .i64 x.idleAge, .int .i64 x.ttl, .int .i64 x.negTTL, .int .i64 x.scarAge] 23) (.cells #[.string { data := #[] }, .string { data := #[] }, .int .i64 0, .int .i64 0] 29)).2
    have HB := Lib.hid (below2 w (.cells #[.int .i64 x.perHost, .int .i64 x.idle, .int .i64 x.waiters, .int .i64 x.attempts, .int .i64 x.stagger, .int .i64 x.idleAge, .int .i64 x.ttl, .int .i64 x.negTTL, .int .i64 x.scarAge] 23) (.cells #[.string { data := #[] }, .string { data := #[] }, .int .i64 0, .int .i64 0] 29))
    have hWs : ((w.alloc (.cells #[.int .i64 x.perHost, .int .i64 x.idle, .int .i64 x.waiters, .int .i64 x.attempts, .int .i64 x.stagger, .int .i64 x.idleAge, .int .i64 x.ttl, .int .i64 x.negTTL, .int .i64 x.scarAge] 23)).alloc (.cells #[.string { data := #[] }, .string { data := #[] }, .int .i64 0, .int .i64 0] 29)).heap.size = w.heap.size + 1 + 1 := by simp
    obtain ⟨W, hW⟩ : ∃ W, W = (w.alloc (.cells #[.int .i64 x.perHost, .int .i64 x.idle, .int .i64 x.waiters, .int .i64 x.attempts, .int .i64 x.stagger, .int .i64 x.idleAge, .int .i64 x.ttl, .int .i64 x.negTTL, .int .i64 x.scarAge] 23)).alloc (.cells #[.string { data := #[] }, .string { data := #[] }, .int .i64 0, .int .i64 0] 29) := ⟨_, rfl⟩
    rw [← hW] at HN HB hWs ⊢
    clear hW
    have HC : Calls Try.prog 31 #[.int .i64 now, .slice (some ⟨w.heap.size + 1 + 1, 0, none⟩) 1 1] (W.alloc (.cells #[.int .i64 x.negTTL] 3)) fun e w' => e = .returned (.int .i64 (P.later now [x.negTTL])) ∧ w' = W.alloc (.cells #[.int .i64 x.negTTL] 3) :=
      later_any now [x.negTTL] (some ⟨w.heap.size + 1 + 1, 0, none⟩) 1 _ (by simp) (rowI_of (rowC_at (K := IK) W 3 [x.negTTL] _ _ 1 hWs.symm rfl rfl (by simp)))
    with_reducible refine HC.mono ?_
    clear HC
    rintro e w1 ⟨rfl, hw⟩
    have hB2 : Below (w.heap.size + 1 + 1) W w1 := by rw [hw]; exact (Below.refl _ W).alloc (by omega) _
    clear hw
    have HZ := Lib.hid ((hB2.block _ (by omega)).trans HN.out)
    have HB3 := Lib.hid (HB.out.trans (hB2.mono (by omega)))
    obtain ⟨⟨x0, x1, x2, x3⟩, y0, y1, y2, y3⟩ := boxes4 HZ.out
    clear hB2
    go_wp2_with fail
    obtain rfl := H1.out
    refine bodyPost_ret (res_cell rfl _ _ _ (w.heap.size + 1) rfl _ (load_Kn (x := ⟨s, .empty, e, P.later now [x.negTTL]⟩) (set4_at HZ.out (.string s) (.string { data := #[] }) (.int .i64 e) (.int .i64 (P.later now [x.negTTL]))))) rfl ?_
    exact ⟨rfl, set4_below HB3.out (by omega) _ _ _ _⟩

theorem entry_spec : EntrySpec := fun x s row e now y w hy => entry_any x s row e now y hy w
set_option maxHeartbeats 4000000 in
set_option maxRecDepth 1000000 in
theorem fresh_spec : FreshSpec := by
  intro l L n a c w hl hL hR
  have HW := Lib.hid (without_any 38 #[.pointer (some ⟨w.heap.size, 0, none⟩)] (fun k => !freshB n k) l L (by rw [hL]; unfold freshK; simp) a c (w.alloc (.cells #[.int .i64 n] 3)) hl enter_stale (hR.below (below1 w _)) (stale_tells n w.heap.size 3 _ (laid1 w _)))
  clear hL hR
  go_enter Try.func19, Try.ntmps19
  go_wp2_with fail
  with_reducible refine (stale_any n w).mono ?_
  rintro e w1 ⟨rfl, hw1⟩
  subst hw1
  go_wp2_with fail
  with_reducible refine HW.out.mono ?_
  rintro e w1 ⟨a1, c1, rfl, h1, h2⟩
  have H1 := Lib.hid h1
  have H2 := Lib.hid ((below1 w (.cells #[.int .i64 n] 3)).trans (h2.mono (by simp)))
  clear h1 h2
  go_wp2_with fail
  go_ret
  exact ⟨a1, c1, rfl, H1.out, H2.out⟩
end Go.Proofs.Ytaealoodchkeaaa
