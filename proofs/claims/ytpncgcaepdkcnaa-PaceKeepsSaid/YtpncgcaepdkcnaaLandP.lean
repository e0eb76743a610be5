/- Package pace as it landed: what is planned. -/
import Derived.Test.YtpncgcaepdkcnaaLandB
set_option linter.unusedSimpArgs false
set_option linter.unusedVariables false
namespace Go.Proofs.Ytpncgcaepdkcnaa
open R3 Go.RowKit Go.Proofs.Ytpncgcaepdkcnaa.Kind

set_option maxHeartbeats 8000000 in
set_option maxRecDepth 1000000 in
theorem ticks_any (t g u : Int) (hu : u = P.clamp t) (w : World) :
    Calls Try.prog 16 #[.int .i64 t, .int .i64 g] w fun e w' => e = .returned (.func (.func 23) #[] #[.pointer (some ⟨w.heap.size + 1, 0, none⟩), .pointer (some ⟨w.heap.size, 0, none⟩)]) ∧ w' = (w.alloc (.cells #[.int .i64 g] 3)).alloc (.cells #[.int .i64 u] 3) := by
  have HC := Lib.hid (fun w => clamp_any t w)
  rw [← hu] at HC
  clear hu
  go_enter Try.func16, Try.ntmps16
  go_wp2_with fail
  (with_reducible refine (HC.out _).mono ?_)
  rintro e w1 ⟨rfl, hw1⟩
  subst w1
  go_wp2_with fail
  go_ret
  exact ⟨by simp, rfl⟩
set_option maxHeartbeats 8000000 in
set_option maxRecDepth 1000000 in
theorem next_any (t u g : Int) (hc : P.clamp t = t) (hu : u = P.plus t g) (b0 b1 : Nat) (w : World) (h0 : w.heap[b0]? = some (.cells #[.int .i64 g] 3 (0, 0))) (h1 : w.heap[b1]? = some (.cells #[.int .i64 t] 3 (0, 0))) :
    Calls Try.prog 23 #[.pointer (some ⟨b1, 0, none⟩), .pointer (some ⟨b0, 0, none⟩)] w fun e w' => e = .returned (.int .i64 t) ∧ w' = (w.setCell ⟨b1, 0, none⟩ (.int .i64 u)).alloc (.cells #[.int .i64 g] 3) := by
  have hX := later_1 t g w
  rw [P.later_one, hc, ← hu] at hX
  have HX := Lib.hid hX
  obtain ⟨c0, _⟩ := cell1 h0
  obtain ⟨c1, f1⟩ := cell1 h1
  have hb1 := lt_of_block h1
  have hb : Below w.heap.size w (w.alloc (.cells #[.int .i64 g] 3)) := below1 _ _
  obtain ⟨d1, e1⟩ := cell1 ((hb.block b1 hb1).trans h1)
  clear hX hc hu h0 h1 hb
  go_enter Try.func23, Try.ntmps23
  go_wp2_with fail
  (with_reducible refine HX.out.mono ?_)
  rintro e w1 ⟨rfl, hw1⟩
  subst w1
  go_wp2_with fail
  go_ret
  exact ⟨rfl, rfl⟩
set_option maxHeartbeats 8000000 in
set_option maxRecDepth 1000000 in
theorem plan_spec : PlanSpec := by
  intro n t g L w hL
  obtain ⟨u, hu⟩ : ∃ u, u = P.clamp t := ⟨_, rfl⟩
  have HL := Lib.hid hL
  have hll : (L.length : Int) = min (max n 0) 8 := by rw [hL, plan_len, planN_int]
  have h8 : L.length ≤ 8 := by omega
  have HC := Lib.hid (show P.clamp u = u by rw [hu, P.clamp_clamp])
  have HF := Lib.hid (show ∀ x, L[0]? = some x → x = u from fun x hx => by rw [hL] at hx; rw [hu]; exact plan_first hx)
  have HN := Lib.hid (show ∀ (k : Nat) (x y : Int), L[k]? = some x → L[k + 1]? = some y → y = P.plus x g from fun k x y hx hy => by rw [hL] at hx hy; exact planF_at g _ _ k x y hx hy)
  have HT := Lib.hid (ticks_any t g u hu w)
  clear hL hu
  by_cases hn0 : n < 0
  · have hz : L = [] := List.length_eq_zero_iff.1 (by omega)
    subst hz
    clear hll
    go_enter Try.func7, Try.ntmps7
    go_wp2_with fail
    (with_reducible refine HT.out.mono ?_)
    rintro e w1 ⟨rfl, hw1⟩
    subst w1
    go_wp2_with fail
    go_loopw [8, 15] (fun o i wr => o = .slice none 0 0 ∧ i = .int .i64 0 ∧ Hid (Below w.heap.size w wr)) (fun _ _ _ => 0)
    case atStart => exact ⟨rfl, rfl, Lib.hid (below2 w _ _)⟩
    case round =>
      obtain ⟨rfl, rfl, hB⟩ := hrel
      have HB := Lib.hid hB.out
      clear hB
      go_wp2_with fail
      go_ret
      exact ⟨none, 0, rfl, row_none _, HB.out⟩
  by_cases hn8 : 8 < n
  · have h88 : L.length = 8 := by omega
    clear hll
    go_enter Try.func7, Try.ntmps7
    go_wp2_with fail
    (with_reducible refine HT.out.mono ?_)
    rintro e w1 ⟨rfl, hw1⟩
    subst w1
    go_wp2_with fail
    rw [show Value.int .i64 8 = Value.int .i64 (L.length : Int) by rw [h88]; rfl]
    clear h88
    go_loopw [8, 15] (fun o i wr => ∃ (k c1 : Nat) (a1 : Option Addr) (v : Int), o = .slice a1 k c1 ∧ i = .int .i64 k ∧ k ≤ L.length ∧ Hid (IK.Own wr (w.heap.size + 2) (.slice a1 k c1) (L.take k)) ∧ Hid (wr.heap[w.heap.size]? = some (.cells #[.int .i64 g] 3 (0, 0))) ∧ Hid (wr.heap[w.heap.size + 1]? = some (.cells #[.int .i64 v] 3 (0, 0))) ∧ Hid (P.clamp v = v ∧ ∀ x, L[k]? = some x → x = v) ∧ Hid (Below w.heap.size w wr)) (fun _ i _ => L.length - (intOf i).toNat)
    case atStart =>
      exact ⟨0, 0, none, u, rfl, rfl, by omega, Lib.hid (own_nil _ _), Lib.hid (laid2 w _ _).1, Lib.hid (laid2 w _ _).2, Lib.hid ⟨HC.out, HF.out⟩, Lib.hid (below2 w _ _)⟩
    case round =>
      obtain ⟨k, c1, a1, v, rfl, rfl, hk, hO, hG0, hG1, hV, hB⟩ := hrel
      have HO := Lib.hid hO.out
      have HB := Lib.hid hB.out
      have HG0 := Lib.hid hG0.out
      have HG1 := Lib.hid hG1.out
      have HV := Lib.hid hV.out
      have hsz := HB.out.size
      have hsz1 := lt_of_block HG1.out
      clear hO hG0 hG1 hV hB
      by_cases hlt : k < L.length
      · obtain ⟨u2, hu2⟩ : ∃ u2, u2 = P.plus v g := ⟨_, rfl⟩
        obtain ⟨x, hx⟩ : ∃ x, L[k]? = some x := ⟨_, List.getElem?_eq_getElem hlt⟩
        obtain rfl := HV.out.2 x hx
        have hst : L.take (k + 1) = L.take k ++ [x] := by rw [List.take_add_one, hx]; rfl
        have hl0 : (L.take k).length = k := by rw [List.length_take]; omega
        have hl1 : (L.take (k + 1)).length = k + 1 := by rw [List.length_take]; omega
        have HV2 := Lib.hid (show P.clamp u2 = u2 ∧ ∀ y, L[k + 1]? = some y → y = u2 from ⟨by rw [hu2]; exact P.clamp_id _ (P.plus_ge _ _) (P.plus_le _ _), fun y hy => by rw [hu2]; exact HN.out k x y hx hy⟩)
        have HX := Lib.hid (next_any x u2 g HV.out.1 hu2 w.heap.size (w.heap.size + 1) wr HG0.out HG1.out)
        have HS := Lib.hid hst
        have hbl := below1 (wr.setCell ⟨w.heap.size + 1, 0, none⟩ (.int .i64 u2)) (.cells #[.int .i64 g] 3)
        obtain ⟨W, hW⟩ : ∃ W, W = (wr.setCell ⟨w.heap.size + 1, 0, none⟩ (.int .i64 u2)).alloc (.cells #[.int .i64 g] 3) := ⟨_, rfl⟩
        have hBW : Below w.heap.size w W := by rw [hW]; exact (HB.out.setCell (by simp) _).trans (hbl.mono (by simpa using hsz))
        have hGW0 : W.heap[w.heap.size]? = some (.cells #[.int .i64 g] 3 (0, 0)) := by
          rw [hW]; exact (hbl.block _ (by simp; omega)).trans ((Below.heap_setCell _ _ _ _ (by simp)).trans HG0.out)
        have hGW1 : W.heap[w.heap.size + 1]? = some (.cells #[.int .i64 u2] 3 (0, 0)) := by
          rw [hW]; exact (hbl.block _ (by simpa using hsz1)).trans (set_at HG1.out 0 _)
        have hOW : IK.Own W (w.heap.size + 2) (.slice a1 k c1) (L.take k) := by
          rw [hW]; exact (HO.out.set (by simp) _).below hbl (Nat.le_refl _)
        rw [← hW] at HX
        have hszW : w.heap.size + 2 ≤ W.heap.size := by have := lt_of_block hGW1; omega
        have HBW := Lib.hid hBW
        have HGW0 := Lib.hid hGW0
        have HGW1 := Lib.hid hGW1
        have HOW := Lib.hid hOW
        clear hst hbl hBW hGW0 hGW1 hOW hu2 hW hx
        go_wp2_with fail
        (with_reducible refine HX.out.mono ?_)
        rintro e w1 ⟨rfl, hw1⟩
        subst w1
        go_wp2_with (at_builtin; refine IK.wpList_append_owned rfl _ _ rfl (w.heap.size + 2) (.slice a1 k c1) rfl (L.take k) (HOW.out.below (below1 W _) (Nat.le_refl _)) (some ⟨W.heap.size, 0, none⟩) 1 1 rfl [x] rfl (rowC_at (K := IK) W 3 [x] _ _ 1 rfl rfl rfl (by simp)) (by rw [hl0]; simp; omega) (by simp; omega) (L.take (k + 1)) HS.out ?_; intro a2 c2 w2 hO2 hG2; have hb2 := below1 W (.cells #[.int .i64 x] 3); have hoo := (fun j hj => (HOW.out.lt j hj).1); have HG2 := Lib.hid (grown_keep hG2 ((hb2.block _ (by omega)).trans HGW0.out) (fun e => by have := hoo _ e.symm; omega)); have HG3 := Lib.hid (grown_keep hG2 ((hb2.block _ (by omega)).trans HGW1.out) (fun e => by have := hoo _ e.symm; omega)); have HB3 := Lib.hid ((HBW.out.trans (hb2.mono (by omega))).grown hG2 (by simp; omega) (fun j hj => by have := hoo _ hj; omega)); rw [hl1] at hO2 ⊢; have HO3 := Lib.hid hO2; clear hO2 hG2 hb2 hoo)
        go_roundw
        case rel => exact ⟨k + 1, c2, a2, u2, rfl, by go_num, by omega, HO3, HG2, HG3, HV2, HB3⟩
        case measure => simp [intOf]; omega
      · obtain rfl : k = L.length := by omega
        go_wp2_with fail
        go_ret
        have hO := HO.out
        rw [List.take_length] at hO
        exact ⟨a1, c1, rfl, hO.row, HB.out⟩
  · have h88 : n = (L.length : Int) := by omega
    subst h88
    clear hll hn0
    go_enter Try.func7, Try.ntmps7
    go_wp2_with fail
    (with_reducible refine HT.out.mono ?_)
    rintro e w1 ⟨rfl, hw1⟩
    subst w1
    go_wp2_with fail
    go_loopw [8, 15] (fun o i wr => ∃ (k c1 : Nat) (a1 : Option Addr) (v : Int), o = .slice a1 k c1 ∧ i = .int .i64 k ∧ k ≤ L.length ∧ Hid (IK.Own wr (w.heap.size + 2) (.slice a1 k c1) (L.take k)) ∧ Hid (wr.heap[w.heap.size]? = some (.cells #[.int .i64 g] 3 (0, 0))) ∧ Hid (wr.heap[w.heap.size + 1]? = some (.cells #[.int .i64 v] 3 (0, 0))) ∧ Hid (P.clamp v = v ∧ ∀ x, L[k]? = some x → x = v) ∧ Hid (Below w.heap.size w wr)) (fun _ i _ => L.length - (intOf i).toNat)
    case atStart =>
      exact ⟨0, 0, none, u, rfl, rfl, by omega, Lib.hid (own_nil _ _), Lib.hid (laid2 w _ _).1, Lib.hid (laid2 w _ _).2, Lib.hid ⟨HC.out, HF.out⟩, Lib.hid (below2 w _ _)⟩
    case round =>
      obtain ⟨k, c1, a1, v, rfl, rfl, hk, hO, hG0, hG1, hV, hB⟩ := hrel
      have HO := Lib.hid hO.out
      have HB := Lib.hid hB.out
      have HG0 := Lib.hid hG0.out
      have HG1 := Lib.hid hG1.out
      have HV := Lib.hid hV.out
      have hsz := HB.out.size
      have hsz1 := lt_of_block HG1.out
      clear hO hG0 hG1 hV hB
      by_cases hlt : k < L.length
      · obtain ⟨u2, hu2⟩ : ∃ u2, u2 = P.plus v g := ⟨_, rfl⟩
        obtain ⟨x, hx⟩ : ∃ x, L[k]? = some x := ⟨_, List.getElem?_eq_getElem hlt⟩
        obtain rfl := HV.out.2 x hx
        have hst : L.take (k + 1) = L.take k ++ [x] := by rw [List.take_add_one, hx]; rfl
        have hl0 : (L.take k).length = k := by rw [List.length_take]; omega
        have hl1 : (L.take (k + 1)).length = k + 1 := by rw [List.length_take]; omega
        have HV2 := Lib.hid (show P.clamp u2 = u2 ∧ ∀ y, L[k + 1]? = some y → y = u2 from ⟨by rw [hu2]; exact P.clamp_id _ (P.plus_ge _ _) (P.plus_le _ _), fun y hy => by rw [hu2]; exact HN.out k x y hx hy⟩)
        have HX := Lib.hid (next_any x u2 g HV.out.1 hu2 w.heap.size (w.heap.size + 1) wr HG0.out HG1.out)
        have HS := Lib.hid hst
        have hbl := below1 (wr.setCell ⟨w.heap.size + 1, 0, none⟩ (.int .i64 u2)) (.cells #[.int .i64 g] 3)
        obtain ⟨W, hW⟩ : ∃ W, W = (wr.setCell ⟨w.heap.size + 1, 0, none⟩ (.int .i64 u2)).alloc (.cells #[.int .i64 g] 3) := ⟨_, rfl⟩
        have hBW : Below w.heap.size w W := by rw [hW]; exact (HB.out.setCell (by simp) _).trans (hbl.mono (by simpa using hsz))
        have hGW0 : W.heap[w.heap.size]? = some (.cells #[.int .i64 g] 3 (0, 0)) := by
          rw [hW]; exact (hbl.block _ (by simp; omega)).trans ((Below.heap_setCell _ _ _ _ (by simp)).trans HG0.out)
        have hGW1 : W.heap[w.heap.size + 1]? = some (.cells #[.int .i64 u2] 3 (0, 0)) := by
          rw [hW]; exact (hbl.block _ (by simpa using hsz1)).trans (set_at HG1.out 0 _)
        have hOW : IK.Own W (w.heap.size + 2) (.slice a1 k c1) (L.take k) := by
          rw [hW]; exact (HO.out.set (by simp) _).below hbl (Nat.le_refl _)
        rw [← hW] at HX
        have hszW : w.heap.size + 2 ≤ W.heap.size := by have := lt_of_block hGW1; omega
        have HBW := Lib.hid hBW
        have HGW0 := Lib.hid hGW0
        have HGW1 := Lib.hid hGW1
        have HOW := Lib.hid hOW
        clear hst hbl hBW hGW0 hGW1 hOW hu2 hW hx
        go_wp2_with fail
        (with_reducible refine HX.out.mono ?_)
        rintro e w1 ⟨rfl, hw1⟩
        subst w1
        go_wp2_with (at_builtin; refine IK.wpList_append_owned rfl _ _ rfl (w.heap.size + 2) (.slice a1 k c1) rfl (L.take k) (HOW.out.below (below1 W _) (Nat.le_refl _)) (some ⟨W.heap.size, 0, none⟩) 1 1 rfl [x] rfl (rowC_at (K := IK) W 3 [x] _ _ 1 rfl rfl rfl (by simp)) (by rw [hl0]; simp; omega) (by simp; omega) (L.take (k + 1)) HS.out ?_; intro a2 c2 w2 hO2 hG2; have hb2 := below1 W (.cells #[.int .i64 x] 3); have hoo := (fun j hj => (HOW.out.lt j hj).1); have HG2 := Lib.hid (grown_keep hG2 ((hb2.block _ (by omega)).trans HGW0.out) (fun e => by have := hoo _ e.symm; omega)); have HG3 := Lib.hid (grown_keep hG2 ((hb2.block _ (by omega)).trans HGW1.out) (fun e => by have := hoo _ e.symm; omega)); have HB3 := Lib.hid ((HBW.out.trans (hb2.mono (by omega))).grown hG2 (by simp; omega) (fun j hj => by have := hoo _ hj; omega)); rw [hl1] at hO2 ⊢; have HO3 := Lib.hid hO2; clear hO2 hG2 hb2 hoo)
        go_roundw
        case rel => exact ⟨k + 1, c2, a2, u2, rfl, by go_num, by omega, HO3, HG2, HG3, HV2, HB3⟩
        case measure => simp [intOf]; omega
      · obtain rfl : k = L.length := by omega
        go_wp2_with fail
        go_ret
        have hO := HO.out
        rw [List.take_length] at hO
        exact ⟨a1, c1, rfl, hO.row, HB.out⟩
end Go.Proofs.Ytpncgcaepdkcnaa
