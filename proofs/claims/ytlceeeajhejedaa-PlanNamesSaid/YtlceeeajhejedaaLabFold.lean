/- The program's Fold. -/
import Derived.Test.YtlceeeajhejedaaLab
import Derived.Test.YtlceeeajhejedaaShelf
import Derived.Lib.OthersKept
set_option linter.unusedSimpArgs false
set_option linter.unusedVariables false
namespace Go.Proofs.Ytlceeeajhejedaa.Lab
open Go.RowKit

theorem valid_one (s : ByteArray) (bk : Nat) (w : World) (hs : s.size ≤ 4000) (hbk : bk < w.heap.size) (hc : w.cell? ⟨bk, 0, none⟩ = some (.string s)) :
    Calls Try.prog 58 #[.slice (some ⟨bk, 0, none⟩) 1 1] w fun e w' =>
      e = .returned (.bool (P.name s.data.toList)) ∧ Below w.heap.size w w' := by
  refine (valid_any [s] bk w (by simp) (by simpa using hs) hbk (fun k h => ?_)).mono fun e w' ⟨he, hb⟩ => ⟨by rw [he]; simp, hb⟩
  obtain rfl : k = 0 := by simp at h; omega
  exact hc
theorem valid_two (a b : ByteArray) (bk : Nat) (w : World) (ha : a.size ≤ 4000) (hb : b.size ≤ 4000) (hbk : bk < w.heap.size) (hc : w.cell? ⟨bk, 0, none⟩ = some (.string a)) (hc' : w.cell? ⟨bk, 1, none⟩ = some (.string b)) :
    Calls Try.prog 58 #[.slice (some ⟨bk, 0, none⟩) 2 2] w fun e w' =>
      e = .returned (.bool (P.name a.data.toList && P.name b.data.toList)) ∧ Below w.heap.size w w' := by
  refine (valid_any [a, b] bk w (by simp) (by simp [ha, hb]) hbk (fun k h => ?_)).mono fun e w' ⟨he, hb⟩ => ⟨by rw [he]; simp, hb⟩
  simp at h
  match k, h with
  | 0, _ => exact hc
  | 1, _ => exact hc'

theorem foldL_at (s : ByteArray) (pos r n : Nat) (h0 : pos < s.size) (hn : n ≠ 0) (ho : P.one (s.data.toList.drop pos) = (r, n)) :
    P.foldL (P.runesOf (s.data.toList.drop pos)) = Lib.encodeRune (P.foldR r) ++ P.foldL (P.runesOf (s.data.toList.drop (pos + n))) := by
  rw [P.runesOf_at s.data.toList pos (by simpa using h0), P.wd, ho, show max 1 n = n from by omega]; rfl
theorem foldL_end (s : ByteArray) (pos : Nat) (h0 : s.size ≤ pos) : P.foldL (P.runesOf (s.data.toList.drop pos)) = [] := by
  rw [P.runesOf_end _ _ (by simpa using h0)]; rfl

/-- In a name each rune is well formed, and what stands behind it is good too. -/
theorem valid_on (s : ByteArray) (pos r n : Nat) (b : Int) (h0 : pos < s.size) (ho : P.one (s.data.toList.drop pos) = (r, n)) (hv : P.validR b (P.runesOf (s.data.toList.drop pos)) = true) :
    n ≠ 0 ∧ P.fol b r = true ∧ P.validR r (P.runesOf (s.data.toList.drop (pos + n))) = true := by
  rw [validR_at s pos r n b h0 ho, Bool.and_eq_true] at hv
  have hn : n ≠ 0 := by
    intro h
    have h1 : P.one (s.data.toList.drop pos) = (0, 0) := one_zero _ (by rw [ho]; exact h)
    rw [ho] at h1
    obtain ⟨rfl, rfl⟩ : r = 0 ∧ n = 0 := by simpa using h1
    have := (P.fol_bad b).1
    rw [show P.fol b ((0 : Nat) : Int) = P.fol b 0 from rfl, this] at hv
    simp at hv
  exact ⟨hn, hv.1, by have h2 := hv.2; rwa [show max 1 n = n from by omega] at h2⟩
theorem foldR_bound (r : Int) (h0 : 0 ≤ r) (h : r ≤ 591) : 0 ≤ P.foldR r ∧ P.foldR r ≤ 623 := by
  unfold P.foldR; split <;> omega
theorem name_valid (l : List UInt8) (h : P.name l = true) : l.length ≤ 64 ∧ P.validR 46 (P.runesOf l) = true := by
  rw [P.name, Bool.and_eq_true] at h
  exact ⟨of_decide_eq_true h.1, h.2⟩

set_option maxHeartbeats 4000000 in
set_option maxRecDepth 1000000 in
theorem fold_no (s : ByteArray) (w : World) (hs : s.size ≤ 4000) (hn : P.name s.data.toList = false) :
    Calls Try.prog 40 #[.string s] w fun e w' => e = .returned (.tuple #[.string ByteArray.empty, .int .i64 10]) ∧ Below w.heap.size w w' := by
  go_enter Try.func40, Try.ntmps40
  go_wp2_with fail
  refine (valid_one s w.heap.size _ hs (by simp) (by simp [go_sem])).mono ?_
  rw [hn]
  rintro e w1 ⟨rfl, hb1⟩
  go_wp2_with fail
  go_ret2
  exact ⟨rfl, ((Below.refl _ w).alloc (Nat.le_refl _) _).trans (hb1.mono (by simp))⟩

set_option maxHeartbeats 4000000 in
set_option maxRecDepth 1000000 in
theorem fold_yes (s : ByteArray) (w : World) (hs : s.size ≤ 4000) (hn : P.name s.data.toList = true) :
    Calls Try.prog 40 #[.string s] w fun e w' => e = .returned (.tuple #[.string ⟨(P.foldB s.data.toList).toArray⟩, .int .i64 0]) ∧ Below w.heap.size w w' := by
  have HV := Lib.hid (name_valid _ hn)
  have h64 : s.size ≤ 64 := by have := HV.out.1; simpa using this
  go_enter Try.func40, Try.ntmps40
  go_wp2_with fail
  refine (valid_one s w.heap.size _ hs (by simp) (by simp [go_sem])).mono ?_
  rw [hn]
  rintro e w1 ⟨rfl, hb1⟩
  have hb1 : Below w.heap.size w w1 := ((Below.refl _ w).alloc (Nat.le_refl _) _).trans (hb1.mono (by simp))
  have hw1 := hb1.size
  clear hn
  go_wp2_with fail
  go_loopw [] (fun wr => ∃ (pos : Nat) (b : Int) (acc : List UInt8), Lib.IsBuilderF 108 5 w1.heap.size w1.heap.size (Lib.byteCells acc) wr ∧ wr.heap[w1.heap.size + 1]? = some (.stringIter s pos) ∧ Below w1.heap.size w1 wr ∧ acc ++ P.foldL (P.runesOf (s.data.toList.drop pos)) = P.foldB s.data.toList ∧ acc.length ≤ 4 * pos ∧ P.validR b (P.runesOf (s.data.toList.drop pos)) = true) (fun wr => s.size - wr.iterPos (w1.heap.size + 1))
  case atStart =>
    refine ⟨0, 46, [], (Lib.IsBuilderF.of (Lib.fresh_isBuilder 108 5 w1)).alloc _, ?_, ((Below.refl _ w1).alloc (Nat.le_refl _) _).alloc (by simp) _, rfl, by simp, HV.out.2⟩
    have := World.iter_heap (w1.alloc (.cells #[.pointer none, .slice none 0 0] 108)) s 0
    simpa using this
  case round =>
    obtain ⟨pos, b, acc, hI, hit, hbw, hacc, hal, hvr⟩ := hrel
    have hsz : w1.heap.size + 1 < wr.heap.size := (Array.getElem?_eq_some_iff.1 hit).1
    by_cases hp : pos < s.size
    · obtain ⟨r, n, ho⟩ : ∃ r n, P.one (s.data.toList.drop pos) = (r, n) := ⟨_, _, rfl⟩
      obtain ⟨hr1, hr2, hr3⟩ := one_room s pos r n hp ho
      obtain ⟨hn0, hf, hvr2⟩ := valid_on s pos r n b hp ho hvr
      have hn1 : 1 ≤ n := by omega
      have hr4 := (fol_bound b r hf).1
      have hfr := foldR_bound r (by omega) (by omega)
      have hfl := foldL_at s pos r n hp hn0 ho
      have hnx : ∀ ty, (Instr.next (.pointer (some ⟨w1.heap.size + 1, 0, none⟩)) true ty).run Try.prog wr = _ := fun ty => Lib.run_next_any_at wr (w1.heap.size + 1) s pos ty hit hp
      rw [decode_at s pos hp r n ho, if_neg hn0] at hnx
      have hI2 := hI.iterAt hit (pos + n)
      have hit2 := Lib.iterAt_heap wr (w1.heap.size + 1) s pos (pos + n) hit
      have hbw2 := Lib.below_iterAt hbw (k := w1.heap.size + 1) (by omega) s (pos + n)
      have hsz2 : w1.heap.size ≤ (wr.iterAt (w1.heap.size + 1) s (pos + n)).heap.size := by rw [Lib.iterAt_size]; omega
      have HF := Lib.hid (And.intro hacc (And.intro hfl hvr2))
      clear hacc hfl hvr2 hvr ho hf hn0
      go_wp2_with (go_at_call 60; refine (foldRune_any _ _ (by omega) (by omega)).mono ?_; rintro e w' ⟨rfl, rfl⟩)
      refine (Try.Builder_WriteRune_k w1.heap.size w1.heap.size _ _ (by omega) (by omega) _ hI2 (by rw [Lib.byteCells_length]; omega) hsz2).mono ?_
      rintro e W1 ⟨rfl, h1, b1, k1⟩
      go_wp2_with fail
      go_roundw
      case rel =>
        have hl4 := Lib.runeCells_le (P.foldR r)
        rw [Lib.runeCells_length] at hl4
        refine ⟨pos + n, r, acc ++ Lib.encodeRune (P.foldR r), ?_, k1.iter hit2 (by omega), hbw2.trans b1, ?_, ?_, HF.out.2.2⟩
        · rw [Lib.byteCells_append, Lib.byteCells_encodeRune]; exact Or.inr h1
        · rw [List.append_assoc, ← HF.out.2.1, HF.out.1]
        · rw [List.length_append]; omega
      case measure =>
        simp only [World.iterPos, k1.iter hit2 (by omega), hit]
        omega
    · have hnx : ∀ ty, (Instr.next (.pointer (some ⟨w1.heap.size + 1, 0, none⟩)) true ty).run Try.prog wr = _ := fun ty => Lib.run_next_end_at wr (w1.heap.size + 1) s pos ty hit hp
      have HA := Lib.hid hacc
      clear hacc hvr
      go_wp2_with (go_at_call 61; refine (Try.Builder_String_any_k w1.heap.size w1.heap.size acc _ hI (by omega)).mono ?_)
      rintro e W1 ⟨rfl, _, b1, _⟩
      go_wp2_with fail
      go_ret2
      have hacc := HA.out
      rw [foldL_end s pos (by omega), List.append_nil] at hacc
      exact ⟨by rw [← hacc]; rfl, (hb1.trans ((hbw.trans b1).mono hw1))⟩
end Go.Proofs.Ytlceeeajhejedaa.Lab
