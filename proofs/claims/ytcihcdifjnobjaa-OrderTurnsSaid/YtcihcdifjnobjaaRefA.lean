/- The document's own answers about order: the same, too great, places, each once, the first ones. -/
import Derived.Test.YtcihcdifjnobjaaBoxes
import Derived.Test.YtcihcdifjnobjaaTwo
set_option linter.unusedSimpArgs false
set_option linter.unusedVariables false
namespace Go.Proofs.Ytcihcdifjnobjaa
open Go.RowKit Go.Proofs.Ytcihcdifjnobjaa.Kind

def famA (a : Ad) : Int := a.f
def placeZ (l : List Ad) (a : Ad) : Int := if a ∈ l then (l.idxOf a : Nat) else -1
def NotTo (l : List Ad) (a : Ad) (k : Nat) : Prop := ∀ j x, j < k → l[j]? = some x → x ≠ a
theorem notTo_step {l : List Ad} {a : Ad} {k : Nat} {x : Ad} (h : NotTo l a k) (hx : l[k]? = some x) (hn : x ≠ a) : NotTo l a (k + 1) := fun j y hj hy => by
  rcases (show j < k ∨ j = k by omega) with h1 | rfl
  · exact h j y h1 hy
  · rw [hx] at hy; cases hy; exact hn
theorem place_at {l : List Ad} {a : Ad} {k : Nat} (hx : l[k]? = some a) (h : NotTo l a k) : placeZ l a = k := by
  obtain ⟨hk, e⟩ := List.getElem?_eq_some_iff.1 hx
  unfold placeZ
  rw [if_pos (List.mem_of_getElem? hx)]
  have : l.idxOf a = k := by
    unfold List.idxOf
    rw [List.findIdx_eq hk]
    exact ⟨by simp [e], fun j hj => by simpa using h j _ hj (List.getElem?_eq_getElem (by omega))⟩
  rw [this]
theorem place_none {l : List Ad} {a : Ad} (h : NotTo l a l.length) : placeZ l a = -1 := by
  unfold placeZ
  rw [if_neg]
  intro ha
  obtain ⟨j, hj, e⟩ := List.getElem_of_mem ha
  exact h j _ hj (List.getElem?_eq_getElem hj) e
theorem place_neg {l : List Ad} {a : Ad} : placeZ l a < 0 ↔ a ∉ l := by
  unfold placeZ
  split <;> simp [*] <;> omega
theorem place_nat {l : List Ad} {a : Ad} (h : a ∈ l) : placeZ l a = (l.idxOf a : Nat) := by unfold placeZ; rw [if_pos h]
theorem place_le (l : List Ad) (a : Ad) : -1 ≤ placeZ l a ∧ placeZ l a ≤ l.length := by
  unfold placeZ
  split
  · rename_i h
    have := List.idxOf_lt_length_of_mem h
    omega
  · omega

set_option maxHeartbeats 4000000 in
set_option maxRecDepth 1000000 in
theorem rsame_any (l m : List Ad) (a b : Option Addr) (c d : Nat) (r : Bool) (w : World) (hr : r = decide (l = m)) (hA : AK.RowC w a c l) (hB : AK.RowC w b d m) :
    Calls Try.prog 11 #[.slice a l.length c, .slice b m.length d] w fun e w' => e = .returned (.bool r) ∧ Below w.heap.size w w' := by
  have HA := Lib.hid hA
  have HB := Lib.hid hB
  have HR := Lib.hid hr
  have hmx : l.length ≤ 9223372036854775807 := by have h1 := hA.1; have h2 := hA.2.1; unfold maxLen at h2; omega
  have hmy : m.length ≤ 9223372036854775807 := by have h1 := hB.1; have h2 := hB.2.1; unfold maxLen at h2; omega
  clear hA hB hr
  go_enter Try.func11, Try.ntmps11
  by_cases hlm : l.length = m.length
  · go_wp2_with fail
    go_loopw [5] (fun i wr => ∃ k q : Nat, k ≤ l.length ∧ i = .int .i64 k ∧ Hid (l.take k = m.take k) ∧ wr = w.drewN q) (fun i _ => l.length - (intOf i).toNat)
    case atStart => exact ⟨0, 0, by omega, rfl, Lib.hid rfl, rfl⟩
    case round =>
      obtain ⟨k, q, hk, rfl, he, rfl⟩ := hrel
      have HE := Lib.hid he.out
      clear he
      by_cases hlt : k < l.length
      · obtain ⟨b1, o1, rfl, hb1, hat1⟩ := HA.out.2.2.2 (by omega)
        obtain ⟨b2, o2, rfl, hb2, hat2⟩ := HB.out.2.2.2 (by omega)
        obtain ⟨x, hx⟩ : ∃ x, l[k]? = some x := ⟨_, List.getElem?_eq_getElem hlt⟩
        obtain ⟨y, hy⟩ : ∃ y, m[k]? = some y := ⟨_, List.getElem?_eq_getElem (by omega)⟩
        obtain ⟨⟨c0, c1, c2, c3, c4⟩, c5, c6, c7, c8, c9⟩ := AK.ten hat1 hx
        obtain ⟨⟨d0, d1, d2, d3, d4⟩, d5, d6, d7, d8, d9⟩ := AK.ten hat2 hy
        have hnq := neq_ad x y
        have hgd := guard_ad
        have HX := Lib.hid hx
        have HY := Lib.hid hy
        clear hx hy hat1 hat2
        by_cases hxy : x = y
        · have hd : decide (x ≠ y) = false := by simp [hxy]
          have HD := Lib.hid (show l.take (k + 1) = m.take (k + 1) by rw [List.take_add_one, List.take_add_one, HE.out, HX.out, HY.out, hxy])
          rw [hd] at hnq
          clear hd hxy
          go_wp2_with fail
          go_quiet (fail)
          go_wp2_with fail
          go_roundw
          case rel => exact ⟨k + 1, _, by omega, by go_num, HD, rfl⟩
          case measure => simp [intOf]; omega
        · have hd : decide (x ≠ y) = true := by simp [hxy]
          have HD := Lib.hid (show r = false by rw [HR.out]; exact decide_eq_false (fun e => hxy (by have := HX.out; rw [e, HY.out] at this; exact (Option.some.inj this).symm)))
          rw [hd] at hnq
          clear hd hxy
          go_wp2_with fail
          go_quiet (fail)
          go_wp2_with fail
          go_ret
          exact ⟨by rw [HD.out]; rfl, below_drewN (below_drewN (Below.refl _ _) _) _⟩
      · obtain rfl : k = l.length := by omega
        have HD := Lib.hid (show r = true by rw [HR.out]; exact decide_eq_true (by have := HE.out; rwa [List.take_length, hlm, List.take_length] at this))
        go_wp2_with fail
        go_ret
        exact ⟨by rw [HD.out]; rfl, below_drewN (Below.refl _ _) q⟩
  · have HD := Lib.hid (show r = false by rw [HR.out]; exact decide_eq_false (fun e => hlm (by rw [e])))
    go_wp2_with fail
    go_ret
    exact ⟨by rw [HD.out]; rfl, Below.refl _ _⟩

set_option maxHeartbeats 4000000 in
set_option maxRecDepth 1000000 in
theorem rgreatA_any (l : List Ad) (a : Option Addr) (c : Nat) (r : Bool) (w : World) (hr : r = decide (60 < l.length)) (hl : l.length ≤ 9223372036854775807) :
    Calls Try.prog 9 #[.slice a l.length c] w fun e w' => e = .returned (.bool r) ∧ w' = w := by
  have HR := Lib.hid hr
  clear hr
  go_enter Try.func9, Try.ntmps9
  go_wp2_with fail
  go_ret
  refine ⟨?_, rfl⟩
  rw [HR.out]
  congr 2
  simp
  omega

set_option maxHeartbeats 4000000 in
set_option maxRecDepth 1000000 in
theorem rplace_any (l : List Ad) (a : Ad) (s : Option Addr) (c : Nat) (r : Int) (w : World) (hr : r = placeZ l a) (hR : AK.RowC w s c l) :
    Calls Try.prog 21 #[.slice s l.length c, .agg #[.int .i8 a.f, .int .u16 a.g0, .int .u16 a.g1, .int .u16 a.g2, .int .u16 a.g3, .int .u16 a.g4, .int .u16 a.g5, .int .u16 a.g6, .int .u16 a.g7, .int .i64 a.p]] w fun e w' => e = .returned (.int .i64 r) ∧ Below w.heap.size w w' := by
  have hmx : (l.length : Int) ≤ 9223372036854775807 := by have h1 := hR.1; have h2 := hR.2.1; unfold maxLen at h2; omega
  have HR := Lib.hid hR
  have HRR := Lib.hid hr
  have hb1 := below1 w (.cells #[.int .i8 a.f, .int .u16 a.g0, .int .u16 a.g1, .int .u16 a.g2, .int .u16 a.g3, .int .u16 a.g4, .int .u16 a.g5, .int .u16 a.g6, .int .u16 a.g7, .int .i64 a.p] 27)
  have HZ := Lib.hid (laid1 w (.cells #[.int .i8 a.f, .int .u16 a.g0, .int .u16 a.g1, .int .u16 a.g2, .int .u16 a.g3, .int .u16 a.g4, .int .u16 a.g5, .int .u16 a.g6, .int .u16 a.g7, .int .i64 a.p] 27))
  clear hR hr
  go_enter Try.func21, Try.ntmps21
  go_upto_region 1 with fail
  obtain ⟨W, hW⟩ : ∃ W, W = w.alloc (.cells #[.int .i8 a.f, .int .u16 a.g0, .int .u16 a.g1, .int .u16 a.g2, .int .u16 a.g3, .int .u16 a.g4, .int .u16 a.g5, .int .u16 a.g6, .int .u16 a.g7, .int .i64 a.p] 27) := ⟨_, rfl⟩
  rw [← hW] at hb1 HZ ⊢
  have HB := Lib.hid hb1
  clear hW hb1
  go_wp2_with fail
  go_loopw [5] (fun i wr => ∃ k q : Nat, i = .int .i64 k ∧ k ≤ l.length ∧ Hid (NotTo l a k) ∧ wr = W.drewN q) (fun i _ => l.length - (intOf i).toNat)
  case atStart => exact ⟨0, 0, rfl, by omega, Lib.hid (fun j x hj => by omega), rfl⟩
  case round =>
    obtain ⟨k, q, rfl, hk, hn, rfl⟩ := hrel
    have HN := Lib.hid hn.out
    clear hn
    by_cases hlt : k < l.length
    · obtain ⟨b, o, rfl, hb, hat⟩ := (HR.out.below HB.out).2.2.2 (by omega)
      obtain ⟨x, hx⟩ : ∃ x, l[k]? = some x := ⟨_, List.getElem?_eq_getElem hlt⟩
      obtain ⟨⟨c0, c1, c2, c3, c4⟩, c5, c6, c7, c8, c9⟩ := AK.ten hat hx
      obtain ⟨⟨x0, x1, x2, x3, x4, x5, x6, x7, x8, x9⟩, _⟩ := boxes10 HZ.out
      have hE := eql_ad x a
      have hgd := guard_ad
      have HX := Lib.hid hx
      clear hat hx
      by_cases hq : x = a
      · rw [decide_eq_true hq] at hE
        have HQ := Lib.hid (show r = (k : Int) by rw [HRR.out]; exact place_at (hq ▸ HX.out) HN.out)
        clear hq
        go_wp2_with fail
        go_quiet (fail)
        go_wp2_with fail
        go_ret
        exact ⟨by rw [HQ.out]; rfl, HB.out.trans ((below_drewN (below_drewN (Below.refl _ _) _) _).mono HB.out.size)⟩
      · rw [decide_eq_false hq] at hE
        have HQ := Lib.hid (notTo_step HN.out HX.out hq)
        clear hq
        go_wp2_with fail
        go_quiet (fail)
        go_wp2_with fail
        go_roundw
        case rel => exact ⟨k + 1, _, by go_num, by omega, HQ, rfl⟩
        case measure => simp [intOf]; omega
    · obtain rfl : k = l.length := by omega
      have HQ := Lib.hid (show r = -1 by rw [HRR.out]; exact place_none HN.out)
      go_wp2_with fail
      go_ret
      exact ⟨by rw [HQ.out]; rfl, HB.out.trans ((below_drewN (Below.refl _ _) _).mono HB.out.size)⟩

theorem once_take {l : List Ad} {k : Nat} {x : Ad} (hx : l[k]? = some x) : Turn.once (l.take (k + 1)) = if x ∈ Turn.once (l.take k) then Turn.once (l.take k) else Turn.once (l.take k) ++ [x] := by
  have : l.take (k + 1) = l.take k ++ [x] := by rw [List.take_add_one, hx]; rfl
  rw [this, Turn.once_snoc]
theorem once_le (l : List Ad) (k : Nat) : (Turn.once (l.take k)).length ≤ k := by
  have h1 := Turn.once_len (l.take k)
  have h2 : (l.take k).length ≤ k := by rw [List.length_take]; omega
  omega
set_option maxHeartbeats 4000000 in
set_option maxRecDepth 1000000 in
theorem ronce_any (l : List Ad) (s : Option Addr) (c : Nat) (L : List Ad) (w : World) (hL : L = Turn.once l) (hl : l.length ≤ 1000) (hR : AK.RowC w s c l) :
    Calls Try.prog 13 #[.slice s l.length c] w fun e w' => ∃ a1 c1, e = .returned (.slice a1 L.length c1) ∧ AK.RowC w' a1 c1 L ∧ Below w.heap.size w w' := by
  have HR := Lib.hid hR
  have HL := Lib.hid hL
  clear hR hL
  go_enter Try.func13, Try.ntmps13
  go_wp2_with fail
  go_loopw [3, 4] (fun o i wr => ∃ (k m c1 : Nat) (a1 : Option Addr), o = .slice a1 m c1 ∧ i = .int .i64 k ∧ k ≤ l.length ∧ m ≤ k ∧ Hid (m = (Turn.once (l.take k)).length) ∧ Hid (AK.Own wr w.heap.size (.slice a1 m c1) (Turn.once (l.take k))) ∧ Hid (Below w.heap.size w wr)) (fun _ i _ => l.length - (intOf i).toNat)
  case atStart => exact ⟨0, 0, 0, none, rfl, rfl, by omega, by omega, Lib.hid rfl, Lib.hid (own_nil _ _), Lib.hid (Below.refl _ _)⟩
  case round =>
    obtain ⟨k, m, c1, a1, rfl, rfl, hk, hmk, hm, hO, hB⟩ := hrel
    have HM := Lib.hid hm.out
    have HO := Lib.hid hO.out
    have HB := Lib.hid hB.out
    have hsz := HB.out.size
    clear hO hB hm
    by_cases hlt : k < l.length
    · obtain ⟨b, o, rfl, hb, hat⟩ := HR.out.2.2.2 (by omega)
      obtain ⟨x, hx⟩ : ∃ x, l[k]? = some x := ⟨_, List.getElem?_eq_getElem hlt⟩
      have HC := Lib.hid (fun (W : World) (h : Below w.heap.size w W) => AK.ten (hat.below h hb) hx)
      have hst := once_take hx
      have hle := once_le l k
      have HF := Lib.hid (rplace_any (Turn.once (l.take k)) x a1 c1 _ wr rfl HO.out.row)
      rw [← HM.out] at HF
      obtain ⟨⟨c0, c1', c2, c3, c4⟩, c5, c6, c7, c8, c9⟩ := HC.out wr HB.out
      clear hat hx
      by_cases hin : x ∈ Turn.once (l.take k)
      · rw [if_pos hin] at hst
        have hz : decide (placeZ (Turn.once (l.take k)) x < 0) = false := decide_eq_false (fun h => place_neg.1 h hin)
        have hz2 : ¬ placeZ (Turn.once (l.take k)) x < 0 := fun h => place_neg.1 h hin
        have HS := Lib.hid hst
        clear hst hin
        go_wp2_with fail
        with_reducible refine HF.out.mono ?_
        rintro e w1 ⟨rfl, hb1⟩
        have HB1 := Lib.hid (HB.out.trans (hb1.mono hsz))
        have HO1 := Lib.hid (HO.out.below hb1 (Nat.le_refl _))
        clear hb1 HF c0 c1' c2 c3 c4 c5 c6 c7 c8 c9
        go_wp2_with fail
        go_roundw
        case rel => exact ⟨k + 1, m, c1, a1, rfl, by go_num, by omega, by omega, Lib.hid (by rw [HS.out]; exact HM.out), Lib.hid (by rw [HS.out]; exact HO1.out), HB1⟩
        case measure => simp [intOf]; omega
      · rw [if_neg hin] at hst
        have hz : decide (placeZ (Turn.once (l.take k)) x < 0) = true := decide_eq_true (place_neg.2 hin)
        have hz2 : placeZ (Turn.once (l.take k)) x < 0 := place_neg.2 hin
        have HS := Lib.hid hst
        clear hst hin
        go_wp2_with fail
        with_reducible refine HF.out.mono ?_
        rintro e w1 ⟨rfl, hb1⟩
        have HB1 := Lib.hid (HB.out.trans (hb1.mono hsz))
        have HO1 := Lib.hid (HO.out.below hb1 (Nat.le_refl _))
        have hsz1 := HB1.out.size
        clear hb1 HF c0 c1' c2 c3 c4 c5 c6 c7 c8 c9 HO HB
        obtain ⟨⟨c0, c1', c2, c3, c4⟩, c5, c6, c7, c8, c9⟩ := HC.out w1 HB1.out
        go_wp2_with (at_builtin; refine AK.wpList_append_owned rfl _ _ rfl w.heap.size (.slice a1 m c1) rfl (Turn.once (l.take k)) (HO1.out.below (below1 w1 _) (Nat.le_refl _)) (some ⟨w1.heap.size, 0, none⟩) 1 1 rfl [x] rfl (rowC_at (K := AK) w1 27 [x] _ _ 1 rfl rfl rfl (by simp)) (by simp; omega) (by simp; omega) (Turn.once (l.take (k + 1))) HS.out ?_; intro a2 c2' w2 hO2 hG2; have HO2 := Lib.hid hO2; have HB2 := Lib.hid ((HB1.out.trans ((below1 w1 (.cells #[.int .i8 x.f, .int .u16 x.g0, .int .u16 x.g1, .int .u16 x.g2, .int .u16 x.g3, .int .u16 x.g4, .int .u16 x.g5, .int .u16 x.g6, .int .u16 x.g7, .int .i64 x.p] 27)).mono hsz1)).grown hG2 (by simp; omega) (fun j hj => (HO1.out.lt j hj).1)); clear hO2 hG2)
        exact ⟨⟨k + 1, _, c2', a2, rfl, by go_num, by omega, once_le _ _, Lib.hid rfl, HO2, HB2⟩, by simp [intOf]; omega⟩
    · obtain rfl : k = l.length := by omega
      go_wp2_with fail
      go_ret
      have hm := HM.out
      have hO := HO.out
      rw [List.take_length, ← HL.out] at hm hO
      exact ⟨a1, c1, by rw [← hm]; rfl, hO.row, HB.out⟩
end Go.Proofs.Ytcihcdifjnobjaa
