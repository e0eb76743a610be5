/- The document's own answers about what is known: one entry put. -/
import Derived.Test.YtaealoodchkeaaaRefM
set_option linter.unusedSimpArgs false
set_option linter.unusedVariables false
namespace Go.Proofs.Ytaealoodchkeaaa
open R3 Go.RowKit Go.Proofs.Ytaealoodchkeaaa.Kind

set_option maxHeartbeats 8000000 in
set_option maxRecDepth 1000000 in
theorem rone_in (l : List Kn) (x : Kn) (k : Nat) (y : Kn) (a : Option Addr) (c : Nat) (w : World) (hl : l.length ≤ 1000) (h1 : placeI l x.name = k) (hy : l[k]? = some y) (hR : KK.RowC w a c l) :
    Calls Try.prog 35 #[.slice a l.length c, .agg #[.string x.name, .string x.row, .int .i64 x.e, .int .i64 x.until_]] w fun e w' => ∃ a1 c1, e = .returned (.slice a1 l.length c1) ∧ KK.RowC w' a1 c1 (l.set k x) ∧ (∃ b o, a1 = some ⟨b, o, none⟩) ∧ Below w.heap.size w w' := by
  have hk : k < l.length := (List.getElem?_eq_some_iff.1 hy).1
  have HR := Lib.hid (fun (W : World) (h : Below w.heap.size w W) => hR.below h)
  have HP := Lib.hid (fun (W : World) (h : Below w.heap.size w W) => rplace_any l x.name a c W (hR.below h))
  simp only [h1] at HP
  have HY := Lib.hid hy
  clear hR h1 hy
  go_enter Try.func35, Try.ntmps35
  go_wp2_with fail
  have hb1 := below1 w (.cells #[.string x.name, .string x.row, .int .i64 x.e, .int .i64 x.until_] 29)
  have HZ := Lib.hid (laid1 w (.cells #[.string x.name, .string x.row, .int .i64 x.e, .int .i64 x.until_] 29))
  have hWs : (w.alloc (.cells #[.string x.name, .string x.row, .int .i64 x.e, .int .i64 x.until_] 29)).heap.size = w.heap.size + 1 := by simp
  obtain ⟨W, hW⟩ : ∃ W, W = w.alloc (.cells #[.string x.name, .string x.row, .int .i64 x.e, .int .i64 x.until_] 29) := ⟨_, rfl⟩
  rw [← hW] at hb1 HZ hWs ⊢
  clear hW
  have HB := Lib.hid hb1
  clear hb1
  with_reducible refine (HP.out W HB.out).mono ?_
  rintro e w1 ⟨rfl, hw⟩
  subst w1
  go_wp2_with (at_builtin; refine KK.wpList_append_rows rfl _ _ rfl (w.heap.size + 1) _ rfl [] (dst_bare _ _ _) a l.length c rfl l rfl (HR.out _ ?_) (by simp; omega) (by first | (simp; done) | (simp; omega)) ?_; exact HB.out.alloc (HB.out.size) _; intro a1 c1 w1 hD1 hM1 hB1; rw [List.nil_append] at hM1; obtain ⟨⟨x0, x1, x2, x3⟩, _⟩ := boxes4 ((hB1.block _ (by omega)).trans ((((Below.refl _ W).alloc (Nat.le_refl _) (.cells #[] 29)).block _ (by omega)).trans HZ.out)); obtain ⟨g, rfl, hg, hrow, ⟨q0, q1, q2, q3⟩, hf⟩ := mine_put hM1 x HY.out; have HRW := Lib.hid hrow; have f0 := hf (k * 4); have f1 := hf (k * 4 + 1); have f2 := hf (k * 4 + 2); have f3 := hf (k * 4 + 3); have HB1 := Lib.hid ((HB.out.alloc (HB.out.size) (.cells #[] 29)).trans (hB1.mono (by omega))); have hg2 : w.heap.size ≤ g := by omega)
  go_ret
  exact ⟨_, _, rfl, HRW.out, ⟨_, _, rfl⟩, (((HB1.out.setCell (p := ⟨g, k * 4, none⟩) hg2 _).setCell (p := ⟨g, k * 4 + 1, none⟩) hg2 _).setCell (p := ⟨g, k * 4 + 2, none⟩) hg2 _).setCell (p := ⟨g, k * 4 + 3, none⟩) hg2 _⟩

theorem rowC_draw {α : Type} {K : Kind Try.prog α} {w : World} {a : Option Addr} {c : Nat} {l : List α} (h : K.RowC w a c l) : K.RowC w.drew a c l := h
theorem own_empty {α : Type} (K : Kind Try.prog α) (w : World) : K.Own (w.alloc (.cells #[] K.T)) w.heap.size (.slice (some ⟨w.heap.size, 0, none⟩) 0 0) [] :=
  own_at (K := K) w [] #[] w.heap.size w.heap.size rfl (Nat.le_refl _) rfl (by simp)
theorem own_draw {α : Type} {K : Kind Try.prog α} {w : World} {base : Nat} {v : Value} {l : List α} (h : K.Own w base v l) : K.Own w.drew base v l := h
theorem own_ge {w : World} {base : Nat} {v : Value} {l : List Kn} (h : KK.Own w base v l) {g : Nat} (hg : v.ownBlock = some g) : base ≤ g ∧ g < w.heap.size := by
  rcases h.2 with ⟨rfl, _⟩ | ⟨g', cap, cur, rfl, h3, h4, h5⟩
  · cases hg
  · have : g' = g := by simpa [Value.ownBlock] using hg
    subst this
    exact ⟨h3, lt_of_block h4⟩
theorem own_next {W0 W w' : World} {n0 base : Nat} {v : Value} {l : List Kn} (hb : Below n0 W0 W) (ho : KK.Own W base v l) (hg : W.grownBy w' v.ownBlock) (h0 : n0 ≤ base) (hn : n0 ≤ W0.heap.size) : Below n0 W0 w' :=
  hb.grown hg (Nat.le_trans hn hb.size) (fun k e => Nat.le_trans h0 (own_ge ho e).1)
theorem own_plain {w : World} {base : Nat} {a : Option Addr} {n c : Nat} {l : List Kn} (h : KK.Own w base (.slice a n c) l) (hl : l ≠ []) : ∃ b o, a = some ⟨b, o, none⟩ := by
  rcases h.2 with ⟨_, h2⟩ | ⟨g', cap, cur, h2, _⟩
  · exact absurd (List.eq_nil_of_length_eq_zero h2) hl
  · injection h2 with h2
    exact ⟨g', 0, h2⟩
theorem row_other {W w' : World} {base g : Nat} {v : Value} {l k : List Kn} (ho : KK.Own W base v l) (hg : W.grownBy w' v.ownBlock) (hr : KK.RowC W (some ⟨g, 0, none⟩) 1 k) (hne : v.ownBlock ≠ some g) : KK.RowC w' (some ⟨g, 0, none⟩) 1 k := by
  refine ⟨hr.1, hr.2.1, hr.2.2.1, fun hk => ?_⟩
  obtain ⟨b, o, h1, h2, h3⟩ := hr.2.2.2 hk
  injection h1 with h1
  injection h1 with h4 h5
  subst h4 h5
  have hbk := hg.block g h2 (fun e => hne e.symm)
  have := hg.size
  refine ⟨g, 0, rfl, by omega, fun j x hx i u hu => ?_⟩
  rw [World.cell?_of_block (w := W) (w' := w') (a := ⟨g, 0 + j * KK.k + i, none⟩) hbk]
  exact h3 j x hx i u hu
set_option maxHeartbeats 8000000 in
set_option maxRecDepth 1000000 in
theorem rone_out (l : List Kn) (x : Kn) (a : Option Addr) (c : Nat) (w : World) (hl : l.length ≤ 1000) (h1 : placeI l x.name = -1) (h2 : l.findIdx? (is x.name) = none) (hpl : ∃ b o, a = some ⟨b, o, none⟩) (hR : KK.RowC w a c l) :
    Calls Try.prog 35 #[.slice a l.length c, .agg #[.string x.name, .string x.row, .int .i64 x.e, .int .i64 x.until_]] w fun e w' => ∃ a1 c1, e = .returned (.slice a1 (l.length + 1) c1) ∧ KK.RowC w' a1 c1 (oneK l x) ∧ (∃ b o, a1 = some ⟨b, o, none⟩) ∧ Below w.heap.size w w' := by
  have HR := Lib.hid (fun (W : World) (h : Below w.heap.size w W) => hR.below h)
  have HP := Lib.hid (fun (W : World) (h : Below w.heap.size w W) => rplace_any l x.name a c W (hR.below h))
  simp only [h1] at HP
  have HO := Lib.hid (one_none h2)
  have hmx : (l.length : Int) ≤ 1000 := by omega
  clear hR h1 h2
  go_enter Try.func35, Try.ntmps35
  go_wp2_with fail
  have hb1 := below1 w (.cells #[.string x.name, .string x.row, .int .i64 x.e, .int .i64 x.until_] 29)
  have HZ := Lib.hid (laid1 w (.cells #[.string x.name, .string x.row, .int .i64 x.e, .int .i64 x.until_] 29))
  have hWs : (w.alloc (.cells #[.string x.name, .string x.row, .int .i64 x.e, .int .i64 x.until_] 29)).heap.size = w.heap.size + 1 := by simp
  obtain ⟨W, hW⟩ : ∃ W, W = w.alloc (.cells #[.string x.name, .string x.row, .int .i64 x.e, .int .i64 x.until_] 29) := ⟨_, rfl⟩
  rw [← hW] at hb1 HZ hWs ⊢
  clear hW
  have HB := Lib.hid hb1
  clear hb1
  with_reducible refine (HP.out W HB.out).mono ?_
  rintro e w1 ⟨rfl, hw⟩
  subst w1
  go_wp2_with fail
  obtain ⟨⟨x0, x1, x2, x3⟩, _⟩ := boxes4 HZ.out
  go_loopw [5] (fun i wr => ∃ k q : Nat, i = .int .i64 k ∧ k ≤ l.length ∧ Hid (k ≤ (l.takeWhile (fun y => leS y.name x.name)).length) ∧ wr = W.drewN q) (fun i _ => l.length - (intOf i).toNat)
  case atStart => exact ⟨0, 0, rfl, by omega, Lib.hid (by omega), rfl⟩
  case round =>
    obtain ⟨k, q, rfl, hk, hn, rfl⟩ := hrel
    have HN := Lib.hid hn.out
    clear hn
    by_cases hlt : k < l.length
    · obtain ⟨b, o, ha, hb, hat⟩ := (HR.out W HB.out).2.2.2 (by omega)
      obtain ⟨y, hy⟩ : ∃ y, l[k]? = some y := ⟨_, List.getElem?_eq_getElem hlt⟩
      obtain ⟨c0, c1, c2, c3⟩ := KK.cells hat hy
      have hws := while_step HN.out hy
      clear hat hy
      cases hq : leS y.name x.name with
      | true =>
        have he : (Op.bytesLess y.name.toList x.name.toList || y.name.toList == x.name.toList) = true := by rw [le_text]; exact hq
        have HS := Lib.hid (hws.1 hq)
        clear hws hq
        subst ha
        go_wp2_with fail
        go_quiet (fail)
        go_wp2_with fail
        go_roundw
        case rel => exact ⟨k + 1, _, by go_num, by omega, Lib.hid HS.out, rfl⟩
        case measure => simp [intOf]; omega
      | false =>
        have he : (Op.bytesLess y.name.toList x.name.toList || y.name.toList == x.name.toList) = false := by rw [le_text]; exact hq
        have hwl := hws.2 hq
        clear hws hq
        subst ha
        go_wp2_with fail
        go_quiet (fail)
        go_wp2_with fail
        have hmd1 : (k : Int) ≤ (c : Int) := by have := (HR.out W HB.out).1; omega
        have hmd2 : (k : Int) ≤ (l.length : Int) := by omega
        have hmd3 : (l.length : Int) ≤ (c : Int) := by have := (HR.out W HB.out).1; omega
        have hmd4 : (0 : Int) ≤ (k : Int) := by omega
        obtain ⟨wz, hwz, hbz⟩ : ∃ wz, wz = (W.drewN q).drewN nq ∧ Below W.heap.size W wz := ⟨_, rfl, below_drewN (below_drewN (Below.refl _ _) _) _⟩
        rw [← hwz]
        have HBz := Lib.hid (HB.out.trans (hbz.mono HB.out.size))
        have hbx := (hbz.block _ (lt_of_block HZ.out)).trans HZ.out
        have HRz := Lib.hid (HR.out wz HBz.out)
        clear hwz hbz x0 x1 x2 x3 c0 c1 c2 c3 he HP
        have HT := Lib.hid (HRz.out.take (a' := some ⟨b, o, none⟩) k (by omega) rfl)
        obtain ⟨p2, hp2⟩ : ∃ p2, (if c = k then some (⟨b, o, none⟩ : Addr) else some ⟨b, o + k * 4, none⟩) = p2 := ⟨_, rfl⟩
        have HD := Lib.hid (HRz.out.drop (a' := p2) k (by omega) (by rw [← hp2]; simp [add_at', KK]))
        obtain ⟨L1, hL1⟩ : ∃ L1, L1 = ([] : List Kn) ++ l.take k := ⟨_, rfl⟩
        have HL1 := Lib.hid hL1
        have HL1l := Lib.hid (show L1.length = k by rw [hL1]; simp <;> omega)
        obtain ⟨K2, hK2⟩ : ∃ K2, K2 = L1 ++ [x] := ⟨_, rfl⟩
        have HK2 := Lib.hid hK2
        obtain ⟨ht1, ht2⟩ := while_parts l (fun y => leS y.name x.name) hwl
        have hKL : oneK l x = K2 ++ l.drop k := by rw [HO.out, ht1, ht2, hK2, hL1]; simp
        have hKl : (oneK l x).length = l.length + 1 := by rw [hKL, hK2, hL1]; simp <;> omega
        obtain ⟨L3, hL3⟩ : ∃ L3, L3 = oneK l x := ⟨_, rfl⟩
        have HK3 := Lib.hid (show L3 = K2 ++ l.drop k by rw [hL3, hKL])
        have HK2l := Lib.hid (show K2.length = k + 1 by rw [hK2]; simp; exact HL1l.out)
        rw [← hL3] at hKl
        have HL3 := Lib.hid hL3
        have HKl := Lib.hid hKl
        clear hL1 hK2 ht1 ht2 hKL hKl hL3 hwl
        have hoa := own_empty KK (wz.alloc (.cells #[.string x.name, .string x.row, .int .i64 x.e, .int .i64 x.until_] 29))
        rw [World.size_alloc] at hoa
        have HOA := Lib.hid (own_draw (hoa.mono (b2 := wz.heap.size) (by omega)))
        clear hoa
        have HOB := Lib.hid (own_draw ((own_empty KK wz).below (below1 (wz.alloc (.cells #[] 29)) (.cells #[.string x.name, .string x.row, .int .i64 x.e, .int .i64 x.until_] 29)) (Nat.le_refl _)))
        have HOC := Lib.hid (own_draw (own_empty KK wz))
        have HBA := Lib.hid (below2 wz (.cells #[.string x.name, .string x.row, .int .i64 x.e, .int .i64 x.until_] 29) (.cells #[] 29)).drew
        have HBB := Lib.hid (below2 wz (.cells #[] 29) (.cells #[.string x.name, .string x.row, .int .i64 x.e, .int .i64 x.until_] 29)).drew
        have HBC := Lib.hid (below1 wz (.cells #[] 29)).drew
        have HRA := Lib.hid (rowC_draw ((rowC_at (K := KK) wz 29 [x] #[.string x.name, .string x.row, .int .i64 x.e, .int .i64 x.until_] wz.heap.size 1 rfl rfl rfl (by simp)).below (below1 (wz.alloc (.cells #[.string x.name, .string x.row, .int .i64 x.e, .int .i64 x.until_] 29)) (.cells #[] 29))))
        have HRB := Lib.hid (rowC_draw (rowC_at (K := KK) (wz.alloc (.cells #[] 29)) 29 [x] #[.string x.name, .string x.row, .int .i64 x.e, .int .i64 x.until_] (wz.heap.size + 1) 1 (by simp) rfl rfl (by simp)))
        have HBX := Lib.hid hbx
        obtain ⟨⟨z0, z1, z2, z3⟩, _⟩ := boxes4 HBX.out
        obtain ⟨⟨n0, n1, n2, n3⟩, _⟩ := boxes4 (((below1 wz (.cells #[] 29)).block _ (lt_of_block HBX.out)).trans HBX.out)
        go_region_law (first
          | (refine KK.step_append_owned rfl _ _ rfl wz.heap.size (.slice (some ⟨wz.heap.size + 1, 0, none⟩) 0 0) rfl [] HOA.out (some ⟨b, o, none⟩) k c rfl (l.take k) (by simp <;> omega) (HT.out.below HBA.out) (by simp <;> omega) (by simp <;> omega) L1 HL1.out ?_; intro a7 c7 w7 hO hG; have HO7 := Lib.hid hO; have HB7 := Lib.hid (own_next HBA.out HOA.out hG (Nat.le_refl _) (Nat.le_refl _)); have HR7 := Lib.hid (row_other HOA.out hG HRA.out (by simp [Value.ownBlock] <;> omega)); clear hO hG)
          | (refine KK.step_append_owned rfl _ _ rfl wz.heap.size (.slice (some ⟨wz.heap.size, 0, none⟩) 0 0) rfl [] HOB.out (some ⟨b, o, none⟩) k c rfl (l.take k) (by simp <;> omega) (HT.out.below HBB.out) (by simp <;> omega) (by simp <;> omega) L1 HL1.out ?_; intro a7 c7 w7 hO hG; have HO7 := Lib.hid hO; have HB7 := Lib.hid (own_next HBB.out HOB.out hG (Nat.le_refl _) (Nat.le_refl _)); have HR7 := Lib.hid (row_other HOB.out hG HRB.out (by simp [Value.ownBlock] <;> omega)); clear hO hG)
          | (refine KK.step_append_owned rfl _ _ rfl wz.heap.size (.slice (some ⟨wz.heap.size, 0, none⟩) 0 0) rfl [] HOC.out (some ⟨b, o, none⟩) k c rfl (l.take k) (by simp <;> omega) (HT.out.below HBC.out) (by simp <;> omega) (by simp <;> omega) L1 HL1.out ?_; intro a7 c7 w7 hO hG; have HO7 := Lib.hid (Own.below hO (below1 w7 (.cells #[.string x.name, .string x.row, .int .i64 x.e, .int .i64 x.until_] 29)) (Nat.le_refl _)); have HB7 := Lib.hid ((own_next HBC.out HOC.out hG (Nat.le_refl _) (Nat.le_refl _)).trans ((below1 w7 (.cells #[.string x.name, .string x.row, .int .i64 x.e, .int .i64 x.until_] 29)).mono (own_next HBC.out HOC.out hG (Nat.le_refl _) (Nat.le_refl _)).size)); have HR7 := Lib.hid (rowC_at (K := KK) w7 29 [x] #[.string x.name, .string x.row, .int .i64 x.e, .int .i64 x.until_] w7.heap.size 1 rfl rfl rfl (by simp)); obtain ⟨⟨q0, q1, q2, q3⟩, _⟩ := boxes4 (((own_next HBC.out HOC.out hG (Nat.le_refl _) (Nat.le_refl _)).block _ (lt_of_block HBX.out)).trans HBX.out); clear hO hG)
          | (refine KK.step_append_owned rfl _ _ rfl wz.heap.size (.slice a7 L1.length c7) rfl L1 HO7.out (some ⟨_, 0, none⟩) 1 1 rfl [x] rfl HR7.out (by have := HL1l.out; simp <;> omega) HB7.out.size K2 HK2.out ?_; intro a8 c8 w8 hO hG; have HO8 := Lib.hid hO; have HB8 := Lib.hid (own_next HB7.out HO7.out hG (Nat.le_refl _) (Nat.le_refl _)); clear hO hG)
          | (refine KK.step_append_owned rfl _ _ rfl wz.heap.size (.slice a8 K2.length c8) rfl K2 HO8.out (p2) (l.length - k) (c - k) rfl (l.drop k) (by simp <;> omega) (HD.out.below HB8.out) (by have := HK2l.out; simp <;> omega) HB8.out.size L3 HK3.out ?_; intro a9 c9 w9 hO hG; have HP9 := Lib.hid (own_plain hO (fun e => by have h := HKl.out; rw [e] at h; simp at h)); have HO9 := Lib.hid hO.row; have HB9 := Lib.hid (own_next HB8.out HO8.out hG (Nat.le_refl _) (Nat.le_refl _)); clear hO hG))
        all_goals
          have hfin := HO9.out
          rw [HL3.out] at hfin
          have hbf := HBz.out.trans (HB9.out.mono HBz.out.size)
          have hle := HKl.out
          go_wp2_with fail
          go_ret
          have hpl9 := HP9.out
          refine ⟨a9, c9, ?_, hfin, hpl9, hbf⟩
          rw [← hle]
          rfl
    · obtain rfl : k = l.length := by omega
      have hdl : decide ((l.length : Int) < (l.length : Int)) = false := by simp
      have hwl : (l.takeWhile (fun y => leS y.name x.name)).length = l.length := Nat.le_antisymm (List.takeWhile_sublist _).length_le HN.out
      obtain ⟨b, o, rfl⟩ := hpl
      go_wp2_with fail
      go_quiet (fail)
      go_wp2_with fail
      have hmd1 : (l.length : Int) ≤ (c : Int) := by have := (HR.out W HB.out).1; omega
      have hmd4 : (0 : Int) ≤ (l.length : Int) := by omega
      obtain ⟨wz, hwz, hbz⟩ : ∃ wz, wz = (W.drewN q).drewN nq ∧ Below W.heap.size W wz := ⟨_, rfl, below_drewN (below_drewN (Below.refl _ _) _) _⟩
      rw [← hwz]
      have HBz := Lib.hid (HB.out.trans (hbz.mono HB.out.size))
      have hbx := (hbz.block _ (lt_of_block HZ.out)).trans HZ.out
      have HRz := Lib.hid (HR.out wz HBz.out)
      clear hwz hbz x0 x1 x2 x3 HP
      have HT := Lib.hid (HRz.out.take (a' := some ⟨b, o, none⟩) l.length (Nat.le_refl _) rfl)
      obtain ⟨p2, hp2⟩ : ∃ p2, (if c = l.length then some (⟨b, o, none⟩ : Addr) else some ⟨b, o + l.length * 4, none⟩) = p2 := ⟨_, rfl⟩
      have HD := Lib.hid (HRz.out.drop (a' := p2) l.length (Nat.le_refl _) (by rw [← hp2]; simp [add_at', KK]))
      obtain ⟨L1, hL1⟩ : ∃ L1, L1 = ([] : List Kn) ++ l.take l.length := ⟨_, rfl⟩
      have HL1 := Lib.hid hL1
      have HL1l := Lib.hid (show L1.length = l.length by rw [hL1]; simp <;> omega)
      obtain ⟨K2, hK2⟩ : ∃ K2, K2 = L1 ++ [x] := ⟨_, rfl⟩
      have HK2 := Lib.hid hK2
      obtain ⟨ht1, ht2⟩ := while_parts l (fun y => leS y.name x.name) hwl
      have hKL : oneK l x = K2 ++ l.drop l.length := by rw [HO.out, ht1, ht2, hK2, hL1]; simp
      have hKl : (oneK l x).length = l.length + 1 := by rw [hKL, hK2, hL1]; simp <;> omega
      obtain ⟨L3, hL3⟩ : ∃ L3, L3 = oneK l x := ⟨_, rfl⟩
      have HK3 := Lib.hid (show L3 = K2 ++ l.drop l.length by rw [hL3, hKL])
      have HK2l := Lib.hid (show K2.length = l.length + 1 by rw [hK2]; simp; exact HL1l.out)
      rw [← hL3] at hKl
      have HL3 := Lib.hid hL3
      have HKl := Lib.hid hKl
      clear hL1 hK2 ht1 ht2 hKL hKl hL3 hwl
      have hoa := own_empty KK (wz.alloc (.cells #[.string x.name, .string x.row, .int .i64 x.e, .int .i64 x.until_] 29))
      rw [World.size_alloc] at hoa
      have HOA := Lib.hid (own_draw (hoa.mono (b2 := wz.heap.size) (by omega)))
      clear hoa
      have HOB := Lib.hid (own_draw ((own_empty KK wz).below (below1 (wz.alloc (.cells #[] 29)) (.cells #[.string x.name, .string x.row, .int .i64 x.e, .int .i64 x.until_] 29)) (Nat.le_refl _)))
      have HOC := Lib.hid (own_draw (own_empty KK wz))
      have HBA := Lib.hid (below2 wz (.cells #[.string x.name, .string x.row, .int .i64 x.e, .int .i64 x.until_] 29) (.cells #[] 29)).drew
      have HBB := Lib.hid (below2 wz (.cells #[] 29) (.cells #[.string x.name, .string x.row, .int .i64 x.e, .int .i64 x.until_] 29)).drew
      have HBC := Lib.hid (below1 wz (.cells #[] 29)).drew
      have HRA := Lib.hid (rowC_draw ((rowC_at (K := KK) wz 29 [x] #[.string x.name, .string x.row, .int .i64 x.e, .int .i64 x.until_] wz.heap.size 1 rfl rfl rfl (by simp)).below (below1 (wz.alloc (.cells #[.string x.name, .string x.row, .int .i64 x.e, .int .i64 x.until_] 29)) (.cells #[] 29))))
      have HRB := Lib.hid (rowC_draw (rowC_at (K := KK) (wz.alloc (.cells #[] 29)) 29 [x] #[.string x.name, .string x.row, .int .i64 x.e, .int .i64 x.until_] (wz.heap.size + 1) 1 (by simp) rfl rfl (by simp)))
      have HBX := Lib.hid hbx
      obtain ⟨⟨z0, z1, z2, z3⟩, _⟩ := boxes4 HBX.out
      obtain ⟨⟨n0, n1, n2, n3⟩, _⟩ := boxes4 (((below1 wz (.cells #[] 29)).block _ (lt_of_block HBX.out)).trans HBX.out)
      go_region_law (first
        | (refine KK.step_append_owned rfl _ _ rfl wz.heap.size (.slice (some ⟨wz.heap.size + 1, 0, none⟩) 0 0) rfl [] HOA.out (some ⟨b, o, none⟩) l.length c rfl (l.take l.length) (by simp <;> omega) (HT.out.below HBA.out) (by simp <;> omega) (by simp <;> omega) L1 HL1.out ?_; intro a7 c7 w7 hO hG; have HO7 := Lib.hid hO; have HB7 := Lib.hid (own_next HBA.out HOA.out hG (Nat.le_refl _) (Nat.le_refl _)); have HR7 := Lib.hid (row_other HOA.out hG HRA.out (by simp [Value.ownBlock] <;> omega)); clear hO hG)
        | (refine KK.step_append_owned rfl _ _ rfl wz.heap.size (.slice (some ⟨wz.heap.size, 0, none⟩) 0 0) rfl [] HOB.out (some ⟨b, o, none⟩) l.length c rfl (l.take l.length) (by simp <;> omega) (HT.out.below HBB.out) (by simp <;> omega) (by simp <;> omega) L1 HL1.out ?_; intro a7 c7 w7 hO hG; have HO7 := Lib.hid hO; have HB7 := Lib.hid (own_next HBB.out HOB.out hG (Nat.le_refl _) (Nat.le_refl _)); have HR7 := Lib.hid (row_other HOB.out hG HRB.out (by simp [Value.ownBlock] <;> omega)); clear hO hG)
        | (refine KK.step_append_owned rfl _ _ rfl wz.heap.size (.slice (some ⟨wz.heap.size, 0, none⟩) 0 0) rfl [] HOC.out (some ⟨b, o, none⟩) l.length c rfl (l.take l.length) (by simp <;> omega) (HT.out.below HBC.out) (by simp <;> omega) (by simp <;> omega) L1 HL1.out ?_; intro a7 c7 w7 hO hG; have HO7 := Lib.hid (Own.below hO (below1 w7 (.cells #[.string x.name, .string x.row, .int .i64 x.e, .int .i64 x.until_] 29)) (Nat.le_refl _)); have HB7 := Lib.hid ((own_next HBC.out HOC.out hG (Nat.le_refl _) (Nat.le_refl _)).trans ((below1 w7 (.cells #[.string x.name, .string x.row, .int .i64 x.e, .int .i64 x.until_] 29)).mono (own_next HBC.out HOC.out hG (Nat.le_refl _) (Nat.le_refl _)).size)); have HR7 := Lib.hid (rowC_at (K := KK) w7 29 [x] #[.string x.name, .string x.row, .int .i64 x.e, .int .i64 x.until_] w7.heap.size 1 rfl rfl rfl (by simp)); obtain ⟨⟨q0, q1, q2, q3⟩, _⟩ := boxes4 (((own_next HBC.out HOC.out hG (Nat.le_refl _) (Nat.le_refl _)).block _ (lt_of_block HBX.out)).trans HBX.out); clear hO hG)
        | (refine KK.step_append_owned rfl _ _ rfl wz.heap.size (.slice a7 L1.length c7) rfl L1 HO7.out (some ⟨_, 0, none⟩) 1 1 rfl [x] rfl HR7.out (by have := HL1l.out; simp <;> omega) HB7.out.size K2 HK2.out ?_; intro a8 c8 w8 hO hG; have HO8 := Lib.hid hO; have HB8 := Lib.hid (own_next HB7.out HO7.out hG (Nat.le_refl _) (Nat.le_refl _)); clear hO hG)
        | (refine KK.step_append_owned rfl _ _ rfl wz.heap.size (.slice a8 K2.length c8) rfl K2 HO8.out (p2) 0 (c - l.length) rfl (l.drop l.length) (by simp <;> omega) (HD.out.below HB8.out) (by have := HK2l.out; simp <;> omega) HB8.out.size L3 HK3.out ?_; intro a9 c9 w9 hO hG; have HP9 := Lib.hid (own_plain hO (fun e => by have h := HKl.out; rw [e] at h; simp at h)); have HO9 := Lib.hid hO.row; have HB9 := Lib.hid (own_next HB8.out HO8.out hG (Nat.le_refl _) (Nat.le_refl _)); clear hO hG))
      all_goals
        have hfin := HO9.out
        rw [HL3.out] at hfin
        have hbf := HBz.out.trans (HB9.out.mono HBz.out.size)
        have hle := HKl.out
        go_wp2_with fail
        go_ret
        have hpl9 := HP9.out
        refine ⟨a9, c9, ?_, hfin, hpl9, hbf⟩
        rw [← hle]
        rfl
end Go.Proofs.Ytaealoodchkeaaa
