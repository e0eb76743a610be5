/- Package pace as it landed: the starts of a history; what is planned. -/
import Derived.Test.YtpncgcaepdkcnaaLandA
set_option linter.unusedSimpArgs false
set_option linter.unusedVariables false
namespace Go.Proofs.Ytpncgcaepdkcnaa
open R3 Go.RowKit Go.Proofs.Ytpncgcaepdkcnaa.Kind

theorem starts_step {l : List Pc} {k : Nat} {f : Bool} {n t : Int} (hx : l[k]? = some ⟨f, n, t⟩) : startsL (l.take (k + 1)) = startsL (l.take k) ++ (if f then [] else [t]) := by
  rw [List.take_add_one, hx, starts_app]
  congr 1
  cases f <;> rfl
theorem grown_keep {w w' : World} {row : Option Nat} (hg : w.grownBy w' row) {j : Nat} {o : Obj} (h : w.heap[j]? = some o) (hne : some j ≠ row) : w'.heap[j]? = some o :=
  (hg.block j (lt_of_block h) hne).trans h
set_option maxHeartbeats 8000000 in
set_option maxRecDepth 1000000 in
theorem starts_spec : StartsSpec := by
  intro l s c L w hL hl hR
  have HL := Lib.hid hL
  have HR := Lib.hid hR
  clear hL hR
  go_enter Try.func13, Try.ntmps13
  go_wp2_with fail
  go_loopw [3, 8] (fun o i wr => ∃ (k m c1 : Nat) (a1 : Option Addr), o = .slice a1 m c1 ∧ i = .int .i64 k ∧ k ≤ l.length ∧ m ≤ k ∧ Hid (m = (startsL (l.take k)).length) ∧ Hid (IK.Own wr w.heap.size (.slice a1 m c1) (startsL (l.take k))) ∧ Hid (Below w.heap.size w wr)) (fun _ i _ => l.length - (intOf i).toNat)
  case atStart => exact ⟨0, 0, 0, none, rfl, rfl, by omega, by omega, Lib.hid rfl, Lib.hid (own_nil _ _), Lib.hid (Below.refl _ _)⟩
  case round =>
    obtain ⟨k, m, c1, a1, rfl, rfl, hk, hmk, hm, hO, hB⟩ := hrel
    have HM := Lib.hid hm.out
    have HO := Lib.hid hO.out
    have HB := Lib.hid hB.out
    have hsz := HB.out.size
    clear hm hO hB
    by_cases hlt : k < l.length
    · obtain ⟨b, o, rfl, hb, hat⟩ := HR.out.2.2.2 (by omega)
      obtain ⟨⟨f, xn, xt⟩, hx⟩ : ∃ x, l[k]? = some x := ⟨_, List.getElem?_eq_getElem hlt⟩
      obtain ⟨c0, c1', c2⟩ := PK.cells (hat.below HB.out hb) hx
      have hst := starts_step hx
      dsimp only at c0 c1' c2
      clear hat hx
      go_upto_region 5 with fail
      obtain ⟨w1, hw1⟩ : ∃ X, X = wr.alloc (.cells #[.bool f, .int .i64 xn, .int .i64 xt] 26) := ⟨_, rfl⟩
      have hb1 : Below wr.heap.size wr w1 := by rw [hw1]; exact below1 _ _
      have hg1 : w1.heap[wr.heap.size]? = some (.cells #[.bool f, .int .i64 xn, .int .i64 xt] 26 (0, 0)) := by rw [hw1]; exact laid1 _ _
      rw [← hw1]
      clear hw1 c0 c1' c2
      obtain ⟨⟨c0, c1', c2⟩, _⟩ := box_3 hg1
      have HB1 := Lib.hid (HB.out.trans (hb1.mono hsz))
      have HO1 := Lib.hid (HO.out.below hb1 (Nat.le_refl _))
      have hsz1 := HB1.out.size
      clear hb1 hg1
      cases f with
      | true =>
        rw [if_pos rfl, List.append_nil] at hst
        have HS := Lib.hid hst
        clear hst
        go_wp2_with fail
        go_roundw
        case rel => exact ⟨k + 1, m, c1, a1, rfl, by go_num, by omega, by omega, Lib.hid (by rw [HS.out]; exact HM.out), Lib.hid (by rw [HS.out]; exact HO1.out), Lib.hid HB1.out⟩
        case measure => simp [intOf]; omega
      | false =>
        rw [if_neg (by decide)] at hst
        have HS := Lib.hid hst
        have HLe := Lib.hid (show (startsL (l.take (k + 1))).length ≤ k + 1 by rw [hst, List.length_append, ← HM.out]; simpa using hmk)
        have hmm := HM.out
        clear hst
        go_wp2_with (at_builtin; refine IK.wpList_append_owned rfl _ _ rfl w.heap.size (.slice a1 m c1) rfl (startsL (l.take k)) (HO1.out.below (below1 w1 _) (Nat.le_refl _)) (some ⟨w1.heap.size, 0, none⟩) 1 1 rfl [xt] rfl (rowC_at (K := IK) w1 3 [xt] _ _ 1 rfl rfl rfl (by simp)) (by rw [← hmm]; simp; omega) (by simp; omega) (startsL (l.take (k + 1))) HS.out ?_; intro a2 c2' w2 hO2 hG2; have HO3 := Lib.hid hO2; have HB3 := Lib.hid ((HB1.out.trans ((below1 w1 (.cells #[.int .i64 xt] 3)).mono hsz1)).grown hG2 (by simp; omega) (fun j hj => (HO1.out.lt j hj).1)); clear hO2 hG2)
        exact ⟨⟨k + 1, _, c2', a2, rfl, by go_num, by omega, HLe.out, Lib.hid rfl, HO3, HB3⟩, by simp [intOf]; omega⟩
    · obtain rfl : k = l.length := by omega
      go_wp2_with fail
      go_ret
      have hm := HM.out
      have hO := HO.out
      rw [List.take_length, ← HL.out] at hm hO
      exact ⟨a1, c1, by rw [← hm]; rfl, (by rw [← hm] ; exact hO : IK.Own _ _ (.slice a1 L.length c1) L).row, HB.out⟩
end Go.Proofs.Ytpncgcaepdkcnaa
