/- The landed order: families in turn. -/
import Derived.Test.YtcihcdifjnobjaaLandG
set_option linter.unusedSimpArgs false
set_option linter.unusedVariables false
namespace Go.Proofs.Ytcihcdifjnobjaa
open Go.RowKit Go.Proofs.Ytcihcdifjnobjaa.Kind
attribute [local go_sem] Oper.semAt_some

theorem run_made_a (w : World) (n : Nat) (hn : n ≤ 1000) : ∃ cs : Array Value, (Instr.makeSlice 22 (.int .i64 0) (.int .i64 n)).run Try.prog w = .ok (.slice (some ⟨w.heap.size, 0, none⟩) 0 n) (w.alloc (.cells cs 27)) ∧ cs.size = n * 10 := by
  obtain ⟨i0, hi, hz0, hz1, hz2⟩ := info_parts AK.hi
  have h := run_makeSlice (P := Try.prog) (w := w) 22 27 i0 AK.z AK.hu hi hz0 .i64 .i64 0 n (by omega) (by omega) (by rw [hz1]; show (n : Int).toNat * 10 ≤ _; omega) (by rw [hz2]; show ((32 : Nat) : Int) * (n : Int) ≤ _; omega) (by omega)
  rw [hz1, Int.toNat_natCast] at h
  refine ⟨_, h, ?_⟩
  show (madeCells AK.z.cells (n * 10)).size = _
  simp [madeCells]
theorem loose_made (w : World) (cs : Array Value) (n base : Nat) (h : cs.size = n * 10) (hn : n ≤ 1000) (hb : base ≤ w.heap.size) : AK.Loose (w.alloc (.cells cs 27)) base (some ⟨w.heap.size, 0, none⟩) n [] :=
  ⟨by simp, by unfold maxLen; omega, (fun e => by cases e), fun _ => ⟨w.heap.size, 0, rfl, hb, by simp, fun j hj => by
    have hj' : j < n * 10 := hj
    have h1 := laid1 w (.cells cs 27)
    have h2 : (w.alloc (.cells cs 27)).cell? ⟨w.heap.size, 0 + j, none⟩ = some cs[j] := by
      unfold World.cell?
      dsimp only
      rw [h1]
      simp
    exact ⟨by rw [h2]; rfl, by simp only [World.frozen?, h1]; simp⟩, fun j x hx => by simp at hx⟩⟩
theorem assert_ad (v : Value) (W : World) : (Instr.typeAssert (.iface 27 v) 20 27 true).run Try.prog W = .ok (.tuple #[v, .bool true]) W := by kernel_rfl

def bkL (a : Option Addr) (c : Nat) : List Nat := if 0 < c then (a.map (fun x => x.block)).toList else []
theorem mem_bkL {a : Option Addr} {c k : Nat} : k ∈ bkL a c ↔ 0 < c ∧ ∃ x, a = some x ∧ x.block = k := by
  unfold bkL
  split
  · rename_i h
    rw [Option.mem_toList, Option.map_eq_some_iff]
    exact ⟨fun h1 => ⟨h, h1⟩, fun h1 => h1.2⟩
  · rename_i h
    simp [h]
/-- How it stands between two that are told: they lie in a row that the variable in block B holds. -/
structure AllA (Q : List (List Ad)) (b0 B : Nat) (w : World) (pre : List (Nat × Nat)) (own : List Nat) (wr : World) : Prop where
  row : ∃ a c, wr.heap[B]? = some (.cells #[.slice a (pre.filterMap (getP Q)).length c] 22 (0, 0)) ∧ AK.Loose wr b0 a c (pre.filterMap (getP Q)) ∧ (0 < c → ∀ x : Addr, a = some x → x.block ≠ B) ∧ own = B :: bkL a c
  below : Below b0 w wr
theorem AllA.lt {Q : List (List Ad)} {b0 B : Nat} {w : World} {pre : List (Nat × Nat)} {own : List Nat} {A : World} (h : AllA Q b0 B w pre own A) (hB : b0 ≤ B) : ∀ k ∈ own, k < A.heap.size ∧ b0 ≤ k := by
  obtain ⟨a, c, h1, h2, h3, h4⟩ := h.row
  intro k hk
  rw [h4] at hk
  rcases List.mem_cons.1 hk with rfl | hk
  · exact ⟨lt_heap' h1, hB⟩
  · obtain ⟨hc, x, hx, rfl⟩ := mem_bkL.1 hk
    have := h2.lt hc hx
    omega
theorem AllA.quiet {Q : List (List Ad)} {b0 B n : Nat} {w : World} {pre : List (Nat × Nat)} {own : List Nat} {A C : World} (h : AllA Q b0 B w pre own A) (hn : b0 ≤ n) (hw : b0 ≤ w.heap.size) (hB : b0 ≤ B) (hq : Quiet n own A C) : AllA Q b0 B w pre own C := by
  have hlt := h.lt hB
  obtain ⟨a, c, h1, h2, h3, h4⟩ := h.row
  have hBo : B ∈ own := by rw [h4]; exact List.mem_cons_self
  refine ⟨⟨a, c, (hq.block B (lt_heap' h1) (.inr hBo)).trans h1, ?_, h3, h4⟩, ?_⟩
  · by_cases hc : 0 < c
    · refine loose_same h2 hq.size (fun x hx => ?_)
      have hm : x.block ∈ own := by rw [h4]; exact List.mem_cons_of_mem _ (mem_bkL.2 ⟨hc, x, hx, rfl⟩)
      exact hq.block _ (hlt _ hm).1 (.inr hm)
    · exact ⟨h2.1, h2.2.1, h2.2.2.1, fun h0 => absurd h0 hc⟩
  · exact h.below.trans ⟨hq.os, hq.tape, hq.output, hq.size, fun k hk => hq.block k (by have := h.below.size; omega) (.inl (by omega))⟩
/-- Behind the append, and behind the store. -/
theorem AllA.more {Q : List (List Ad)} {b0 B : Nat} {w : World} {pre : List (Nat × Nat)} {own : List Nat} {W Z w5 : World} (h : AllA Q b0 B w pre own W) (hB : b0 ≤ B) {a : Option Addr} {c : Nat} {l : List Ad} (hl : l = pre.filterMap (getP Q)) (h1 : W.heap[B]? = some (.cells #[.slice a l.length c] 22 (0, 0))) (h2 : AK.Loose W b0 a c l) (h3 : 0 < c → ∀ x : Addr, a = some x → x.block ≠ B) (h4 : own = B :: bkL a c)
    (hZ : Below W.heap.size W Z) (x : Nat × Nat) (L : List Ad) (hL : L = (pre ++ [x]).filterMap (getP Q)) {a' : Option Addr} {c' : Nat} (r1 : AK.Loose w5 b0 a' c' L) (r2 : ∃ row, Z.grownBy w5 row ∧ ∀ j, row = some j → b0 ≤ j ∧ 0 < c ∧ ∃ ad, a = some ad ∧ ad.block = j) (r3 : (∃ g, a' = some ⟨g, 0, none⟩ ∧ Z.heap.size ≤ g) ∨ (a' = a ∧ 0 < c)) :
    w5.heap[B]? = some (.cells #[.slice a l.length c] 22 (0, 0)) ∧ ∃ own', AllA Q b0 B w (pre ++ [x]) own' (w5.setCell ⟨B, 0, none⟩ (.slice a' L.length c')) ∧ Turned own W (w5.setCell ⟨B, 0, none⟩ (.slice a' L.length c')) ∧ Fewer own own' W := by
  have hlt := h.lt hB
  have hBW := lt_heap' h1
  have hZs := hZ.size
  obtain ⟨row, g1, g2⟩ := r2
  have hB5 : w5.heap[B]? = some (.cells #[.slice a l.length c] 22 (0, 0)) := (g1.block B (by omega) (fun e => by
    obtain ⟨_, hc, ad, e1, e2⟩ := g2 B e.symm
    exact h3 hc ad e1 e2)).trans ((hZ.block B hBW).trans h1)
  have hs5 := g1.size
  have h3' : 0 < c' → ∀ y : Addr, a' = some y → y.block ≠ B := fun hc' y hy => by
    rcases r3 with ⟨g, e1, e2⟩ | ⟨e1, hc⟩
    · rw [e1] at hy
      injection hy with hy
      subst hy
      show g ≠ B
      omega
    · rw [e1] at hy
      exact h3 hc y hy
  subst hL
  refine ⟨hB5, B :: bkL a' c', ⟨⟨a', c', set_at hB5 0 _, ?_, h3', rfl⟩, ?_⟩, ?_, ?_⟩
  · exact set_same r1 _ (fun hc y hy => h3' hc y hy)
  · exact (((h.below.trans (hZ.mono (by omega))).grown g1 (by omega) (fun k e => (g2 k e).1))).setCell (p := ⟨B, 0, none⟩) hB _
  · refine ⟨g1.os.trans hZ.os, g1.tape.trans hZ.tape, g1.output.trans hZ.output, by simp; omega, fun k hk hn => ?_⟩
    rw [h4, List.mem_cons, not_or] at hn
    refine (Below.heap_setCell _ _ _ _ hn.1).trans ((g1.block k (by omega) (fun e => ?_)).trans (hZ.block k hk))
    obtain ⟨_, hc, ad, e1, e2⟩ := g2 k e.symm
    exact hn.2 (mem_bkL.2 ⟨hc, ad, e1, e2⟩)
  · intro k hk hkl
    rw [h4]
    rcases List.mem_cons.1 hk with rfl | hk
    · exact List.mem_cons_self
    · obtain ⟨hc', y, hy, rfl⟩ := mem_bkL.1 hk
      rcases r3 with ⟨g, e1, e2⟩ | ⟨e1, hc⟩
      · rw [e1] at hy
        injection hy with hy
        subst hy
        dsimp only at hkl
        omega
      · rw [e1] at hy
        exact List.mem_cons_of_mem _ (mem_bkL.2 ⟨hc, y, hy, rfl⟩)

set_option maxHeartbeats 16000000 in
set_option maxRecDepth 1000000 in
theorem turns_spec : TurnsSpec := by
  intro l s c L w hL hl hR
  obtain ⟨hL, hok⟩ := hL
  have HF := Lib.hid (families_any l s c w hl hok hR)
  have HL := Lib.hid hL
  obtain ⟨Q, hQ⟩ : ∃ Q, Q = fams l := ⟨_, rfl⟩
  have hQl : Q.length ≤ 400 := by
    have h1 := kinds_le l l.length
    rw [List.take_length] at h1
    rw [hQ, fams_len]; omega
  have HN := Lib.hid (fams_short l)
  have HQ := Lib.hid hQ
  rw [← hQ] at HF HN
  clear hR hok hL hQ
  refine (callsIn_wide (n := 0)).1 (callsIn_of_wp_marks Try.func14 rfl trivial ?_ rfl)
  simp only [Try.ntmps14, List.size_toArray, List.length_cons, List.length_nil, Nat.reduceAdd, Nat.reduceSub, Array.replicate_succ, Array.replicate_zero, List.push_toArray, List.append_toArray, List.nil_append, List.cons_append]
  refine wpIn_wide.2 ?_
  go_wp2_with fail
  with_reducible refine HF.out.mono ?_
  rintro e w1 ⟨gq, cq, hs, rfl, hFm, hb1⟩
  have HFm := Lib.hid hFm
  have HB1 := Lib.hid hb1
  clear hFm hb1 HF
  go_upto_region 2 with fail
  obtain ⟨wA, hwA⟩ : ∃ X, X = w1.alloc (.cells #[.slice gq Q.length cq] 42) := ⟨_, rfl⟩
  have hbA := below1 w1 (.cells #[.slice gq Q.length cq] 42)
  have hlA := laid1 w1 (.cells #[.slice gq Q.length cq] 42)
  have hsA : wA.heap.size = w1.heap.size + 1 := by rw [hwA]; simp
  rw [← hwA] at hbA hlA ⊢
  clear hwA
  obtain ⟨cs, hmk, hcs⟩ := run_made_a wA l.length (by omega)
  go_upto_region 3 with fail
  obtain ⟨wC, hwC⟩ : ∃ X, X = (wA.alloc (.cells cs 27)).alloc (.cells #[.slice (some ⟨w1.heap.size + 1, 0, none⟩) 0 l.length] 22) := ⟨_, rfl⟩
  have hbC := below2 wA (.cells cs 27) (.cells #[.slice (some ⟨w1.heap.size + 1, 0, none⟩) 0 l.length] 22)
  have hlC := (laid2 wA (.cells cs 27) (.cells #[.slice (some ⟨w1.heap.size + 1, 0, none⟩) 0 l.length] 22)).2
  have hlo := (loose_made wA cs l.length (w1.heap.size + 1) hcs (by omega) (by omega)).below (below1 (wA.alloc (.cells cs 27)) (.cells #[.slice (some ⟨w1.heap.size + 1, 0, none⟩) 0 l.length] 22))
  have hsC : wC.heap.size = w1.heap.size + 3 := by rw [hwC]; simp [hsA]
  rw [hsA] at hlC hlo
  rw [← hwC] at hbC hlC hlo ⊢
  clear hwC hmk hcs
  have hlA2 := (hbC.block w1.heap.size (by omega)).trans hlA
  obtain ⟨y0, y1⟩ := box1 hlA2
  have HTH := Lib.hid (show Calls Try.prog 24 #[.slice gq Q.length cq] wC fun e w' => e = .returned (.func (.func 30) #[] #[.pointer (some ⟨wC.heap.size, 0, none⟩)]) ∧ w' = wC.alloc (.cells #[.slice gq Q.length cq] 42) by
    clear HFm HB1 hlA hlA2 y0 y1 hlC hlo hbC hbA hsC hsA HL HN HQ
    go_enter Try.func24, Try.ntmps24
    go_wp2_with fail
    go_ret
    exact ⟨rfl, rfl⟩)
  obtain ⟨wD, hwD⟩ : ∃ X, X = wC.alloc (.cells #[.slice gq Q.length cq] 42) := ⟨_, rfl⟩
  have hbD := below1 wC (.cells #[.slice gq Q.length cq] 42)
  have hlD := laid1 wC (.cells #[.slice gq Q.length cq] 42)
  have hsD : wD.heap.size = w1.heap.size + 4 := by rw [hwD]; simp [hsC]
  rw [← hwD] at hbD hlD HTH
  have hb1D : Below w1.heap.size w1 wD := hbA.trans ((hbC.mono (by omega)).trans (hbD.mono (by omega)))
  have hit := turn_it Q l.length HN.out hQl hl gq cq (w.heap.size + 1) wC.heap.size hs w1 wD HFm.out hb1D hlD (fun k => k < w1.heap.size ∨ k = wC.heap.size) (fun k h => h)
  have h0 : AllA Q (w1.heap.size + 1) (w1.heap.size + 1 + 1) wD [] ((w1.heap.size + 1 + 1) :: bkL (some ⟨w1.heap.size + 1, 0, none⟩) l.length) wD := ⟨⟨some ⟨w1.heap.size + 1, 0, none⟩, l.length, (hbD.block _ (by omega)).trans hlC, hlo.below hbD, fun _ x e => by (injection e with e; subst e; show w1.heap.size + 1 ≠ _; omega), rfl⟩, Below.refl _ _⟩
  have hlA3 := (hbD.block w1.heap.size (by omega)).trans hlA2
  rw [hsC] at HTH hit
  have HIT := Lib.hid hit
  have HH0 := Lib.hid h0
  have HA3 := Lib.hid hlA3
  have HB1D := Lib.hid hb1D
  clear hit h0 hlA hlA2 hlA3 hlC hlo hbC hbA hbD hlD hwD hb1D hsA
  go_wp2_with fail
  with_reducible refine HTH.out.mono ?_
  rintro e W4 ⟨rfl, rfl⟩
  clear HTH y0 y1
  go_wp2_with fail
  refine wp_range_bare (gf := 30) (bnd := #[]) (lb := #[.pointer (some ⟨w1.heap.size + 3, 0, none⟩)]) rfl (enters_of Try.func30 (by kernel_rfl) rfl)
    HIT.out (Below.refl _ _) (fun _ => rfl) (AllA Q (w1.heap.size + 1) (w1.heap.size + 1 + 1) W4) (fun pre own A B h hq => h.quiet (n := W4.heap.size) (by omega) (by omega) (by omega) hq) (fun pre own A h k hk => (h.lt (by omega) k hk).1) ((w1.heap.size + 1 + 1) :: bkL (some ⟨w1.heap.size + 1, 0, none⟩) l.length) HH0.out
    (fun k hk h => by omega) (fun k hk h => by (rcases List.mem_cons.1 hk with rfl | hk2; omega; obtain ⟨_, x, e, rfl⟩ := mem_bkL.1 hk2; injection e with e; subst e; dsimp only at h; omega)) (fun x => { tmps := #[.slice s l.length c, undef, .slice none 0 0, .pointer (some ⟨w1.heap.size, 0, none⟩), .pointer (some ⟨w1.heap.size + 1 + 1, 0, none⟩), .int .i64 (x.1 : Int), .int .i64 (x.2 : Int), undef, undef, .slice s l.length c, .slice gq Q.length cq, .slice s l.length c, .int .i64 (l.length : Int), .slice (some ⟨w1.heap.size + 1, 0, none⟩) 0 l.length, .slice gq Q.length cq, .func (.func 30) #[] #[.pointer (some ⟨w1.heap.size + 3, 0, none⟩)], .int .i64 (x.1 : Int), .int .i64 (x.2 : Int), undef, undef, undef, undef, undef, undef, undef, undef, undef, undef, undef, undef, undef, undef, undef, undef, undef], defers := [] }) ?assign ?body ?done
  case assign =>
    intro m l' x W' K hK
    gi_wp2_with fail
    exact hK
  case body =>
    intro m l' pre x own W' hpx hI
    obtain ⟨n, r⟩ := x
    dsimp only
    have hmem : (n, r) ∈ upTo Q l.length := hpx.subset (by simp)
    obtain ⟨hn, hr⟩ := mem_upTo hmem
    dsimp only at hn hr
    have hplen : (pre.filterMap (getP Q)).length ≤ 400 := by
      have h1 := (hpx.filterMap (getP Q)).length_le
      rw [HQ.out, fams_turns, Turn.turns_len, List.filterMap_append, List.length_append, ← HQ.out] at h1
      omega
    obtain ⟨L0, hL0⟩ : ∃ L0, L0 = Q.getD n [] := ⟨_, rfl⟩
    rw [← hL0] at hr
    obtain ⟨ad, had⟩ : ∃ ad, L0[r]? = some ad := ⟨_, List.getElem?_eq_getElem hr⟩
    have hQn : Q[n]? = some L0 := by rw [hL0, List.getD_eq_getElem?_getD, List.getElem?_eq_getElem hn, Option.getD_some]
    obtain ⟨hv, hhv⟩ := HFm.out.has hQn
    obtain ⟨hvn, hlo⟩ := HFm.out.el _ _ _ hhv hQn
    have hbW := HB1D.out.trans (hI.below.mono (show w1.heap.size ≤ w1.heap.size + 1 by omega))
    obtain ⟨g, o, hgq, _⟩ := (HFm.out.row).2.2.2 (by have := HFm.out.row.1; have := (List.getElem?_eq_some_iff.1 hhv).1; omega)
    subst hgq
    have c0 := (HFm.out.below hbW).cell hhv
    obtain ⟨g2, o2, hva, hg2, hat⟩ := (hlo.below hbW).row.2.2.2 (by omega)
    have c1 := PK.one hat had
    unfold Ad.any at c1
    rw [hva, hvn] at c0
    have hA3 := (hI.below.block w1.heap.size (by omega)).trans HA3.out
    obtain ⟨c2, _⟩ := box1 hA3
    have hni : (n : Int) < (Q.length : Int) := by omega
    have hn0 : (0 : Int) ≤ (n : Int) := by omega
    obtain ⟨q0, hq0⟩ : ∃ q0, q0 = L0.length := ⟨_, rfl⟩
    rw [← hq0] at c0 hr
    have hri : (r : Int) < (q0 : Int) := by omega
    have hr0 : (0 : Int) ≤ (r : Int) := by omega
    have hasr := assert_ad
    obtain ⟨ra, rc, g1, g3, g4, g5⟩ := hI.row
    obtain ⟨lp, hlp⟩ : ∃ lp, lp = pre.filterMap (getP Q) := ⟨_, rfl⟩
    rw [← hlp] at g1 g3 hplen
    obtain ⟨LL, hLL⟩ : ∃ LL, LL = (pre ++ [(n, r)]).filterMap (getP Q) := ⟨_, rfl⟩
    have hLe : LL = lp ++ [ad] := by
      have e1 : getP Q (n, r) = some ad := by
        unfold getP
        rw [← hL0]
        exact had
      have e2 : List.filterMap (getP Q) [(n, r)] = [ad] := by rw [List.filterMap_cons, e1]; rfl
      rw [hLL, hlp, List.filterMap_append, e2]
    have hBs : w1.heap.size + 1 + 1 < W'.heap.size := lt_heap' g1
    have hbz := below2 W' (.cells #[.int .i8 ad.f, .int .u16 ad.g0, .int .u16 ad.g1, .int .u16 ad.g2, .int .u16 ad.g3, .int .u16 ad.g4, .int .u16 ad.g5, .int .u16 ad.g6, .int .u16 ad.g7, .int .i64 ad.p] 27) (.cells #[.int .i8 ad.f, .int .u16 ad.g0, .int .u16 ad.g1, .int .u16 ad.g2, .int .u16 ad.g3, .int .u16 ad.g4, .int .u16 ad.g5, .int .u16 ad.g6, .int .u16 ad.g7, .int .i64 ad.p] 27)
    have y0 := ((below1 W' (.cells #[.int .i8 ad.f, .int .u16 ad.g0, .int .u16 ad.g1, .int .u16 ad.g2, .int .u16 ad.g3, .int .u16 ad.g4, .int .u16 ad.g5, .int .u16 ad.g6, .int .u16 ad.g7, .int .i64 ad.p] 27)).cell (p := ⟨w1.heap.size + 1 + 1, 0, none⟩) hBs).trans (box1 g1).1
    have HKx := Lib.hid (rowC_at (K := AK) (W'.alloc (.cells #[.int .i8 ad.f, .int .u16 ad.g0, .int .u16 ad.g1, .int .u16 ad.g2, .int .u16 ad.g3, .int .u16 ad.g4, .int .u16 ad.g5, .int .u16 ad.g6, .int .u16 ad.g7, .int .i64 ad.p] 27)) 27 [ad] #[.int .i8 ad.f, .int .u16 ad.g0, .int .u16 ad.g1, .int .u16 ad.g2, .int .u16 ad.g3, .int .u16 ad.g4, .int .u16 ad.g5, .int .u16 ad.g6, .int .u16 ad.g7, .int .i64 ad.p] (W'.heap.size + 1) 1 (by simp) rfl rfl (by simp))
    have HGZ := Lib.hid (g3.below hbz)
    have HI := Lib.hid hI
    have HLLe := Lib.hid hLe
    have HLL := Lib.hid hLL
    have HLp := Lib.hid hlp
    have HG1 := Lib.hid g1
    have HG3 := Lib.hid g3
    have HG4 := Lib.hid g4
    have HG5 := Lib.hid g5
    have HBZ := Lib.hid hbz
    clear hmem hn hr hL0 had hQn hhv hvn hlo hbW hva hg2 hat hA3 hq0 hlp hLL hLe hbz g1 g3 g4 g5 hI HIT HH0 hpx
    gi_wp2_with (gi_at_builtin; refine AK.wpListIn_append_loose rfl _ _ rfl (w1.heap.size + 1) ra lp.length rc rfl lp rfl HGZ.out (some ⟨W'.heap.size + 1, 0, none⟩) 1 1 rfl [ad] rfl (by simp) HKx.out (by simp; omega) (by have := HBZ.out.size; omega) LL HLLe.out ?_; intro a1 c9 w5 r1 r2 r3; have HM := Lib.hid (HI.out.more (by omega) HLp.out HG1.out HG3.out HG4.out HG5.out HBZ.out (n, r) LL HLL.out r1 r2 r3); obtain ⟨q1, q2⟩ := box1 HM.out.1; clear r1 r2 r3)
    exact HM.out.2
  case done =>
    intro Dm own W' hI hT hF hD1 hD2 hD3 hD4
    have hI2 := hI.quiet (n := W4.heap.size) (by omega) (by omega) (by omega) (Quiet.put (.deferred none) hD1 hD3)
    obtain ⟨ra, rc, g1, g2, g3, g4⟩ := hI.row
    obtain ⟨y0, z0⟩ := box1 g1
    obtain ⟨rb, rd, k1, k2, k3, k4⟩ := hI2.row
    obtain ⟨y1, z1⟩ := box1 k1
    have he : rb = ra ∧ rd = rc := by
      have e1 := (World.putObj_heap_other (w := W') (r := Dm) (o := .deferred none) (k := w1.heap.size + 1 + 1) (by omega)).symm.trans k1
      rw [g1] at e1
      simp at e1
      exact ⟨e1.1.symm, e1.2.symm⟩
    obtain ⟨rfl, rfl⟩ := he
    have hLq : (upTo Q l.length).filterMap (getP Q) = L := by rw [HL.out, HQ.out]; exact fams_turns l
    rw [hLq] at y0 y1 k2
    have HR := Lib.hid k2.row
    have HBf := Lib.hid (HB1.out.trans ((HB1D.out.mono HB1.out.size).trans (hI2.below.mono (by have := HB1.out.size; omega))))
    have HK := Lib.hid hD4
    clear g1 g2 g3 g4 k1 k2 k3 k4 hI hI2 hT hF hD1 hD2 hD3 hD4 HIT HH0 hLq
    go_wp2_with fail
    refine ⟨by simp, .inl ⟨_, _, rfl, run_takeDeferred HK.out, ?_⟩⟩
    exact ⟨_, results_tmp rfl _ _ _, rb, rd, rfl, HR.out, HBf.out⟩
end Go.Proofs.Ytcihcdifjnobjaa
