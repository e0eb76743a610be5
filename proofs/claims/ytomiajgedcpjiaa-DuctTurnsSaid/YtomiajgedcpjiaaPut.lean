/- Put; Close; New. -/
import Derived.Test.YtomiajgedcpjiaaDo
set_option linter.unusedSimpArgs false
set_option linter.unusedVariables false
namespace Go.Proofs.Ytomiajgedcpjiaa
open Go.RowKit Go.Proofs.Ytomiajgedcpjiaa.Kind

theorem FarC.ofPut {w0 w1 w2 : World} {n : Nat} (h1 : Below n w0 w1) (h2 : Below (n + 2) w1 w2) (x y z : Value) : Below n w0 (set3 w2 (n + 1) x y z) := set3_below (h1.trans (h2.mono (by omega))) (by omega) x y z

theorem laid3 (w : World) (o p q : Obj) : (((w.alloc o).alloc p).alloc q).heap[w.heap.size]? = some o ∧ (((w.alloc o).alloc p).alloc q).heap[w.heap.size + 1]? = some p ∧ (((w.alloc o).alloc p).alloc q).heap[w.heap.size + 2]? = some q := by
  refine ⟨(Below.heap_alloc _ _ _ (by simp; try omega)).trans (laid2 w o p).1, (Below.heap_alloc _ _ _ (by simp; try omega)).trans (laid2 w o p).2, ?_⟩
  simpa using heap_alloc_new ((w.alloc o).alloc p) q
theorem below3 (w : World) (o p q : Obj) : Below w.heap.size w (((w.alloc o).alloc p).alloc q) := (((Below.refl _ w).alloc (Nat.le_refl _) _).alloc (by simp) _).alloc (by simp; try omega) _

theorem roomB_le (cap : Int) (n : Nat) (cl : Bool) (k : Nat) (hm : mayB cap n = true) (h : (k : Int) ≤ roomB cap n cl) : n + k ≤ 64 := by
  simp [mayB] at hm
  unfold roomB at h
  split at h <;> omega
theorem mayB_le {cap : Int} {n : Nat} (hm : mayB cap n = true) : 0 ≤ cap ∧ cap ≤ 64 ∧ n ≤ 64 := by simp [mayB] at hm; omega

set_option maxHeartbeats 4000000 in
set_option maxRecDepth 1000000 in
theorem put_any (cap : Int) (cl : Bool) (l k : List Lt) (er : Int) (L : List Lt) (hR : PutR cap cl l k er L) (hm : mayB cap l.length = true) (hk : k.length ≤ 100000) (a b : Option Addr) (c d : Nat) (w : World) (hA : LK.RowC w a c l) (hK : LK.RowC w b d k) :
    Calls Try.prog 9 #[.agg #[.int .i64 cap, .slice a l.length c, .bool cl], .slice b k.length d] w fun e w' => ∃ a' c', e = .returned (.tuple #[.agg #[.int .i64 cap, .slice a' L.length c', .bool cl], .int .i64 er]) ∧ LK.FarC w' w.heap.size a' c' L ∧ Below w.heap.size w w' := by
  have hml := mayB_le hm
  have HA := Lib.hid hA
  have HK := Lib.hid hK
  have HM := Lib.hid hm
  have HR := Lib.hid hR
  clear hA hK hm hR
  go_enter Try.func9, Try.ntmps9
  go_wp2_with fail
  have HD := Lib.hid (do_may 28 #[.pointer (some ⟨w.heap.size + 1, 0, none⟩)] cap cl l a c (((w.alloc (.cells #[.int .i64 cap, .slice a l.length c, .bool cl] 26)).alloc (.cells #[.slice b k.length d] 24)).alloc (.cells #[.int .i64 0, .slice none 0 0, .bool false] 26)) (enter_fn Try.func28 (by kernel_rfl) rfl) HM.out (by omega) (HA.out.below (below3 w _ _ _)) er cl L (fun W1 W2 => Below (w.heap.size + 3 + 2) W1 W2) (by
    intro W g a1 c1 h1 h2 h3 h4 h5
    have h6 : Below (w.heap.size + 3) _ W := h3.mono (by simp)
    have h7 : w.heap.size + 3 + 2 ≤ g := by simpa using h1
    refine (put1_any cap cl l k er L HR.out (by omega) (by omega) hk a1 b c1 d g (w.heap.size + 1) (w.heap.size + 3 + 2) W h4 ((h6.block _ (by omega)).trans (laid3 w _ _ _).2.1) (h5.mono (by simp)) (HK.out.below ((below3 w _ _ _).trans (h3.mono (by simp; try omega)))) h7 (by omega)).mono ?_
    rintro e W' ⟨a2, c2, rfl, g1, g2, g3⟩
    exact ⟨a2, c2, rfl, g1, g2.far.mono (by simp), g3.block _ (by simp), g3⟩))
  with_reducible refine HD.out.mono ?_
  rintro e w' ⟨a1, c1, W1, W2, rfl, hf, hb, hr, hw⟩
  have HF := Lib.hid (hf.mono (b2 := w.heap.size + 5) (by simp))
  have hB : Below (w.heap.size + 3) (((w.alloc (.cells #[.int .i64 cap, .slice a l.length c, .bool cl] 26)).alloc (.cells #[.slice b k.length d] 24)).alloc (.cells #[.int .i64 0, .slice none 0 0, .bool false] 26)) w' := by
    rw [hw]
    exact set3_below ((hb.mono (by simp)).trans (hr.mono (by omega))) (by simp) _ _ _
  have HB := Lib.hid ((below3 w _ _ _).trans (hB.mono (by omega)))
  have hQ := (hB.block _ (by omega)).trans (laid3 w _ _ _).2.2
  have HQ := Lib.hid hQ
  obtain ⟨⟨p0, p1, p2⟩, p3, p4, p5⟩ := box3 hQ
  clear hf hb hr hw hB hQ HD
  go_wp2_with fail
  change bodyPost _ _ _ _ _ (set3 w' (w.heap.size + 2) (.int .i64 cap) (.slice a1 L.length c1) (.bool cl))
  refine bodyPost_ret (res_cell_tmp rfl _ _ _ (w.heap.size + 2) rfl _ (load3 (set3_at HQ.out _ _ _))) rfl ?_
  exact ⟨a1, c1, rfl, (set3_far HF.out (by omega) _ _ _).mono (by omega), set3_below HB.out (by omega) _ _ _⟩

/-- What Close answers. -/
def CloseR (cl : Bool) (er : Int) : Prop := er = if cl then 52 else 0

set_option maxHeartbeats 4000000 in
set_option maxRecDepth 1000000 in
theorem close1_any (cap : Int) (cl : Bool) (l : List Lt) (er : Int) (hR : CloseR cl er) (a : Option Addr) (c g base : Nat) (w : World) (hg : w.heap[g]? = some (.cells #[.int .i64 cap, .slice a l.length c, .bool cl] 26 (0, 0)))
    (hO : LK.Own w base (.slice a l.length c) l) (hbg : base ≤ g) :
    Calls Try.prog 30 #[.pointer (some ⟨g, 0, none⟩)] w fun e w' => ∃ a' c', e = .returned (.int .i64 er) ∧ w'.heap[g]? = some (.cells #[.int .i64 cap, .slice a' l.length c', .bool true] 26 (0, 0)) ∧ LK.Own w' base (.slice a' l.length c') l ∧ Below base w w' := by
  obtain ⟨⟨c0, c1, c2⟩, f0, f1, f2⟩ := box3 hg
  have HG := Lib.hid hg
  have HO := Lib.hid hO
  clear hg hO
  unfold CloseR at hR
  cases cl
  · simp only [Bool.false_eq_true, if_false] at hR
    subst hR
    go_enter Try.func30, Try.ntmps30
    go_wp2_with fail
    go_ret
    exact ⟨a, c, rfl, set_at HG.out 2 _, HO.out.setNe (HO.out.ne HG.out (by decide)) _, (Below.refl _ _).setCell hbg _⟩
  · simp only [if_true] at hR
    subst hR
    go_enter Try.func30, Try.ntmps30
    go_wp2_with fail
    go_ret
    exact ⟨a, c, rfl, HG.out, HO.out, Below.refl _ _⟩

set_option maxHeartbeats 4000000 in
set_option maxRecDepth 1000000 in
theorem close_any (cap : Int) (cl : Bool) (l : List Lt) (er : Int) (hR : CloseR cl er) (hm : mayB cap l.length = true) (a : Option Addr) (c : Nat) (w : World) (hA : LK.RowC w a c l) :
    Calls Try.prog 11 #[.agg #[.int .i64 cap, .slice a l.length c, .bool cl]] w fun e w' => ∃ a' c', e = .returned (.tuple #[.agg #[.int .i64 cap, .slice a' l.length c', .bool true], .int .i64 er]) ∧ LK.FarC w' w.heap.size a' c' l ∧ Below w.heap.size w w' := by
  have hml := mayB_le hm
  have HA := Lib.hid hA
  have HM := Lib.hid hm
  have HR := Lib.hid hR
  clear hA hm hR
  have hb2 := ((Below.refl w.heap.size w).alloc (Nat.le_refl _) (.cells #[.int .i64 cap, .slice a l.length c, .bool cl] 26)).alloc (by simp) (.cells #[.int .i64 0, .slice none 0 0, .bool false] 26)
  have HB2 := Lib.hid hb2
  clear hb2
  go_enter Try.func11, Try.ntmps11
  go_wp2_with fail
  have HD := Lib.hid (do_may 30 #[] cap cl l a c ((w.alloc (.cells #[.int .i64 cap, .slice a l.length c, .bool cl] 26)).alloc (.cells #[.int .i64 0, .slice none 0 0, .bool false] 26)) (enter_fn Try.func30 (by kernel_rfl) rfl) HM.out (by omega) (HA.out.below HB2.out) er true l (fun W1 W2 => Below (w.heap.size + 2 + 2) W1 W2) (by
    intro W g a1 c1 h1 h2 h3 h4 h5
    refine (close1_any cap cl l er HR.out a1 c1 g (w.heap.size + 2 + 2) W h4 (h5.mono (by simp)) (by simpa using h1)).mono ?_
    rintro e W' ⟨a2, c2, rfl, g1, g2, g3⟩
    exact ⟨a2, c2, rfl, g1, g2.far.mono (by simp), g3.block _ (by simp), g3⟩))
  with_reducible refine HD.out.mono ?_
  rintro e w' ⟨a1, c1, W1, W2, rfl, hf, hb, hr, hw⟩
  have HF := Lib.hid (hf.mono (b2 := w.heap.size + 4) (by simp))
  have hB : Below (w.heap.size + 2) ((w.alloc (.cells #[.int .i64 cap, .slice a l.length c, .bool cl] 26)).alloc (.cells #[.int .i64 0, .slice none 0 0, .bool false] 26)) w' := by
    rw [hw]
    exact set3_below ((hb.mono (by simp)).trans (hr.mono (by omega))) (by simp) _ _ _
  have HB := Lib.hid (HB2.out.trans (hB.mono (by omega)))
  have hQ := (hB.block _ (by omega)).trans (laid2 w _ _).2
  have HQ := Lib.hid hQ
  obtain ⟨⟨p0, p1, p2⟩, p3, p4, p5⟩ := box3 hQ
  clear hf hb hr hw hB hQ HD
  go_wp2_with fail
  change bodyPost _ _ _ _ _ (set3 w' (w.heap.size + 1) (.int .i64 cap) (.slice a1 l.length c1) (.bool true))
  refine bodyPost_ret (res_cell_tmp rfl _ _ _ (w.heap.size + 1) rfl _ (load3 (set3_at HQ.out _ _ _))) rfl ?_
  exact ⟨a1, c1, rfl, (set3_far HF.out (by omega) _ _ _).mono (by omega), set3_below HB.out (by omega) _ _ _⟩

set_option maxHeartbeats 4000000 in
set_option maxRecDepth 1000000 in
theorem new_any (cap : Int) (l : List Lt) (hm : mayB cap l.length = true) (a : Option Addr) (c : Nat) (w : World) (hA : LK.RowC w a c l) :
    Calls Try.prog 8 #[.int .i64 cap, .slice a l.length c] w fun e w' => ∃ a' c', e = .returned (.tuple #[.agg #[.int .i64 cap, .slice a' l.length c', .bool false], .int .i64 0]) ∧ LK.FarC w' w.heap.size a' c' l ∧ Below w.heap.size w w' := by
  have hml := mayB_le hm
  have HA := Lib.hid hA
  have HM := Lib.hid hm
  clear hA hm
  go_enter Try.func8, Try.ntmps8
  go_wp2_with fail
  have HMa := Lib.hid (may_one cap a l.length c false 26 (w.heap.size + 1 + 1) _ (laid3 w (.cells #[.int .i64 0, .slice none 0 0, .bool false] 26) (.cells #[.int .i64 cap, .slice a l.length c, .bool false] 26) (.cells #[.int .i64 cap, .slice a l.length c, .bool false] 26)).2.2)
  rw [HM.out] at HMa
  with_reducible refine HMa.out.mono ?_
  rintro e w1 ⟨rfl, hB⟩
  have hB : Below (w.heap.size + 3) _ w1 := hB.mono (by simp)
  have HB1 := Lib.hid ((below3 w _ _ _).trans (hB.mono (by omega)))
  have hQ := (hB.block _ (by omega)).trans (laid3 w _ _ _).1
  have HQ := Lib.hid hQ
  have hP := (hB.block _ (by omega)).trans (laid3 w _ _ _).2.1
  obtain ⟨⟨p0, p1, p2⟩, p3, p4, p5⟩ := box3 hP
  have hs1 := hB.size
  simp only [World.size_alloc] at hs1
  clear hB hQ hP HMa
  go_wp2_with fail
  with_reducible refine (apart_any cap l false a c w1 (by omega) (HA.out.below HB1.out)).mono ?_
  rintro e w2 ⟨a1, c1, rfl, hO, hB⟩
  have HF := Lib.hid (hO.far.mono (b2 := w.heap.size + 1) (by omega))
  have HB2 := Lib.hid (HB1.out.trans (hB.mono (by omega)))
  have hQ2 := (hB.block _ (by omega)).trans HQ.out
  have HQ2 := Lib.hid hQ2
  obtain ⟨⟨q0, q1, q2⟩, q3, q4, q5⟩ := box3 hQ2
  clear hO hB hQ2 HQ
  go_wp2_with fail
  change bodyPost _ _ _ _ _ (set3 w2 w.heap.size (.int .i64 cap) (.slice a1 l.length c1) (.bool false))
  refine bodyPost_ret (res_cell_tmp rfl _ _ _ w.heap.size rfl _ (load3 (set3_at HQ2.out _ _ _))) rfl ?_
  exact ⟨a1, c1, rfl, (set3_far HF.out (by omega) _ _ _).mono (by omega), set3_below HB2.out (by omega) _ _ _⟩
end Go.Proofs.Ytomiajgedcpjiaa
