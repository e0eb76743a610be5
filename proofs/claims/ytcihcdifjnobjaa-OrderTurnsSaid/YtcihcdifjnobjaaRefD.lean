/- The document's own answers about order: the list, the first ones. -/
import Derived.Test.YtcihcdifjnobjaaRefC
set_option linter.unusedSimpArgs false
set_option linter.unusedVariables false
namespace Go.Proofs.Ytcihcdifjnobjaa
open Go.RowKit Go.Proofs.Ytcihcdifjnobjaa.Kind

/-- Two rows of the call's own, apart. -/
structure Two (w : World) (base : Nat) (a1 : Option Addr) (c1 : Nat) (G : List Ad) (a2 : Option Addr) (c2 : Nat) (B : List Ad) : Prop where
  l1 : AK.Loose w base a1 c1 G
  l2 : AK.Loose w base a2 c2 B
  ap : 0 < c1 → 0 < c2 → ∀ x y, a1 = some x → a2 = some y → x.block ≠ y.block
theorem Two.swap {w : World} {base : Nat} {a1 : Option Addr} {c1 : Nat} {G : List Ad} {a2 : Option Addr} {c2 : Nat} {B : List Ad} (h : Two w base a1 c1 G a2 c2 B) : Two w base a2 c2 B a1 c1 G := ⟨h.l2, h.l1, fun h2 h1 x y hx hy e => h.ap h1 h2 y x hy hx e.symm⟩
theorem Two.below {w w' : World} {base : Nat} {a1 : Option Addr} {c1 : Nat} {G : List Ad} {a2 : Option Addr} {c2 : Nat} {B : List Ad} (h : Two w base a1 c1 G a2 c2 B) (hb : Below w.heap.size w w') : Two w' base a1 c1 G a2 c2 B := ⟨h.l1.below hb, h.l2.below hb, h.ap⟩
theorem loose_in {w : World} {base : Nat} {a : Option Addr} {c : Nat} {l : List Ad} (h : AK.Loose w base a c l) (hc : 0 < c) {y : Addr} (e : a = some y) : y.block < w.heap.size := by
  obtain ⟨g, o, e2, _, h3, _⟩ := h.2.2.2 hc
  rw [e] at e2
  injection e2 with e2
  rw [e2]
  exact h3
theorem Two.app {w w' : World} {base : Nat} {a1 : Option Addr} {c1 : Nat} {G : List Ad} {a2 : Option Addr} {c2 : Nat} {B : List Ad} (h : Two w base a1 c1 G a2 c2 B) {a3 : Option Addr} {c3 : Nat} {G2 : List Ad} (hO : AK.Loose w' base a3 c3 G2)
    (hG : ∃ row, w.grownBy w' row ∧ ∀ j, row = some j → base ≤ j ∧ 0 < c1 ∧ ∃ ad, a1 = some ad ∧ ad.block = j) (hP : (∃ g, a3 = some ⟨g, 0, none⟩ ∧ w.heap.size ≤ g) ∨ (a3 = a1 ∧ 0 < c1)) : Two w' base a3 c3 G2 a2 c2 B := by
  obtain ⟨row, hg, hr⟩ := hG
  have hs := hg.size
  refine ⟨hO, ?_, fun h3 h2 x y ex ey => ?_⟩
  · by_cases hc : 0 < c2
    · refine loose_same h.l2 hs (fun ad e => hg.block _ (loose_in h.l2 hc e) (fun e2 => ?_))
      obtain ⟨_, hc1, ad2, e3, e4⟩ := hr _ e2.symm
      exact h.ap hc1 hc ad2 ad e3 e e4
    · exact ⟨h.l2.1, h.l2.2.1, h.l2.2.2.1, fun h0 => absurd h0 hc⟩
  · rcases hP with ⟨g, e2, hg2⟩ | ⟨e2, hc1⟩
    · rw [e2] at ex
      injection ex with ex
      subst ex
      have := loose_in h.l2 h2 ey
      show g ≠ _
      omega
    · rw [e2] at ex
      exact h.ap hc1 h2 x y ex ey
theorem two_grown {w0 w w' : World} {base : Nat} {c : Nat} {a : Option Addr} (h : Below base w0 w) (hG : ∃ row, w.grownBy w' row ∧ ∀ j, row = some j → base ≤ j ∧ 0 < c ∧ ∃ ad, a = some ad ∧ ad.block = j) (hb : base ≤ w.heap.size) : Below base w0 w' := by
  obtain ⟨row, hg, hr⟩ := hG
  exact h.grown hg hb (fun j e => (hr j e).1)
theorem part_le (p : Ad → Bool) (l : List Ad) (k : Nat) : ((l.take k).filter p).length ≤ k := Turn.filter_short p l k
theorem part_take {l : List Ad} {k : Nat} {x : Ad} (p : Ad → Bool) (hx : l[k]? = some x) : (l.take (k + 1)).filter p = (l.take k).filter p ++ (if p x then [x] else []) := by
  have : l.take (k + 1) = l.take k ++ [x] := by rw [List.take_add_one, hx]; rfl
  rw [this, List.filter_append]
  congr 1
  cases h : p x <;> simp [h]
set_option maxHeartbeats 8000000 in
set_option maxRecDepth 1000000 in
theorem rlist_any (l bad : List Ad) (s v : Option Addr) (c d : Nat) (L : List Ad) (w : World) (hL : L = Turn.list famA l bad) (hl : l.length ≤ 400) (hbl : bad.length ≤ 400) (hR : AK.RowC w s c l) (hV : AK.RowC w v d bad) :
    Calls Try.prog 17 #[.slice s l.length c, .slice v bad.length d] w fun e w' => ∃ a1 c1, e = .returned (.slice a1 L.length c1) ∧ AK.RowC w' a1 c1 L ∧ Below w.heap.size w w' := by
  have HV := Lib.hid hV
  have HL := Lib.hid hL
  obtain ⟨O, hO⟩ : ∃ O, O = Turn.once l := ⟨_, rfl⟩
  have hOl : O.length ≤ 400 := by have := Turn.once_len l; rw [hO]; omega
  have HF0 := Lib.hid (ronce_any l s c O w hO (by omega) hR)
  have HOe := Lib.hid hO
  clear hR hV hL hO
  go_enter Try.func17, Try.ntmps17
  go_wp2_with fail
  with_reducible refine HF0.out.mono ?_
  rintro e wb ⟨a0, c0, rfl, h0, hb0⟩
  have HR := Lib.hid h0
  have HB0 := Lib.hid hb0
  clear h0 hb0 HF0
  go_wp2_with fail
  go_loopw [5, 6, 8] (fun g r i wr => ∃ (k m1 m2 : Nat) (a1 a2 : Option Addr) (c1 c2 : Nat), g = .slice a1 m1 c1 ∧ r = .slice a2 m2 c2 ∧ i = .int .i64 k ∧ k ≤ O.length ∧ m1 ≤ k ∧ m2 ≤ k ∧ Hid (m1 = ((O.take k).filter (fun z => decide (z ∉ bad))).length) ∧ Hid (m2 = ((O.take k).filter (fun z => decide (z ∈ bad))).length) ∧ Hid (Two wr wb.heap.size a1 c1 ((O.take k).filter (fun z => decide (z ∉ bad))) a2 c2 ((O.take k).filter (fun z => decide (z ∈ bad)))) ∧ Hid (Below wb.heap.size wb wr)) (fun _ _ i _ => O.length - (intOf i).toNat)
  case atStart => exact ⟨0, 0, 0, none, none, 0, 0, rfl, rfl, rfl, by omega, by omega, by omega, Lib.hid rfl, Lib.hid rfl, Lib.hid ⟨loose_nil _ _, loose_nil _ _, fun h => by omega⟩, Lib.hid (Below.refl _ _)⟩
  case round =>
    obtain ⟨k, m1, m2, a1, a2, c1, c2, rfl, rfl, rfl, hk, hk1, hk2, hm1, hm2, hT, hB⟩ := hrel
    have HM1 := Lib.hid hm1.out
    have HM2 := Lib.hid hm2.out
    have HT := Lib.hid hT.out
    have HB := Lib.hid hB.out
    have hsz := HB.out.size
    clear hm1 hm2 hT hB
    by_cases hlt : k < O.length
    · obtain ⟨b, o, rfl, hb, hat⟩ := HR.out.2.2.2 (by omega)
      obtain ⟨x, hx⟩ : ∃ x, O[k]? = some x := ⟨_, List.getElem?_eq_getElem hlt⟩
      have HC := Lib.hid (fun (W : World) (h : Below wb.heap.size wb W) => AK.ten (hat.below h hb) hx)
      have hg := part_take (fun z => decide (z ∉ bad)) hx
      have hi := part_take (fun z => decide (z ∈ bad)) hx
      have HF := Lib.hid (rplace_any bad x v d _ wr rfl ((HV.out.below HB0.out).below HB.out))
      obtain ⟨⟨c0, c1', c2', c3, c4⟩, c5, c6, c7, c8, c9⟩ := HC.out wr HB.out
      have hki : (k : Int) < (O.length : Int) := by omega
      clear hat hx
      by_cases hin : x ∈ bad
      · have hz : decide (placeZ bad x < 0) = false := decide_eq_false (fun h => place_neg.1 h hin)
        have hz2 : ¬ placeZ bad x < 0 := fun h => place_neg.1 h hin
        rw [if_neg (by simpa using hin), List.append_nil] at hg
        rw [if_pos (by simpa using hin)] at hi
        have HN := Lib.hid hg
        have HS := Lib.hid hi
        clear hg hi hin
        go_wp2_with fail
        with_reducible refine HF.out.mono ?_
        rintro e w1 ⟨rfl, hb1⟩
        have HB1 := Lib.hid (HB.out.trans (hb1.mono hsz))
        have HT1 := Lib.hid (HT.out.below hb1)
        have hsz1 := HB1.out.size
        clear hb1 HF c0 c1' c2' c3 c4 c5 c6 c7 c8 c9 HT HB
        obtain ⟨⟨c0, c1', c2', c3, c4⟩, c5, c6, c7, c8, c9⟩ := HC.out w1 HB1.out
        have hb2 := below1 w1 (.cells #[.int .i8 x.f, .int .u16 x.g0, .int .u16 x.g1, .int .u16 x.g2, .int .u16 x.g3, .int .u16 x.g4, .int .u16 x.g5, .int .u16 x.g6, .int .u16 x.g7, .int .i64 x.p] 27)
        have HT2 := Lib.hid (HT1.out.below hb2)
        have HB2 := Lib.hid (HB1.out.trans (hb2.mono hsz1))
        have hsz2 := HB2.out.size
        clear hb2
        go_wp2_with (at_builtin; refine wpList_append_loose AK rfl _ _ rfl wb.heap.size a2 m2 c2 rfl ((O.take k).filter (fun z => decide (z ∈ bad))) HM2.out HT2.out.l2 (some ⟨w1.heap.size, 0, none⟩) 1 1 rfl [x] rfl (by simp) (rowC_at (K := AK) w1 27 [x] _ _ 1 rfl rfl rfl (by simp)) (by rw [← HM2.out]; show m2 + 1 ≤ 4000000; omega) hsz2 ((O.take (k + 1)).filter (fun z => decide (z ∈ bad))) HS.out ?_; intro a3 c3 w3 hO3 hG3 hP3; have HT3 := Lib.hid ((HT2.out.swap.app hO3 hG3 hP3).swap); have HB3 := Lib.hid (two_grown HB2.out hG3 hsz2); clear hO3 hG3 hP3)
        exact ⟨⟨k + 1, m1, _, a1, a3, c1, c3, rfl, rfl, by go_num, by omega, by omega, part_le _ O (k + 1), Lib.hid (by rw [HN.out]; exact HM1.out), Lib.hid rfl, Lib.hid (by rw [HN.out]; exact HT3.out), HB3⟩, by simp [intOf]; omega⟩
      · have hz : decide (placeZ bad x < 0) = true := decide_eq_true (place_neg.2 hin)
        have hz2 : placeZ bad x < 0 := place_neg.2 hin
        rw [if_pos (by simpa using hin)] at hg
        rw [if_neg (by simpa using hin), List.append_nil] at hi
        have HN := Lib.hid hi
        have HS := Lib.hid hg
        clear hg hi hin
        go_wp2_with fail
        with_reducible refine HF.out.mono ?_
        rintro e w1 ⟨rfl, hb1⟩
        have HB1 := Lib.hid (HB.out.trans (hb1.mono hsz))
        have HT1 := Lib.hid (HT.out.below hb1)
        have hsz1 := HB1.out.size
        clear hb1 HF c0 c1' c2' c3 c4 c5 c6 c7 c8 c9 HT HB
        obtain ⟨⟨c0, c1', c2', c3, c4⟩, c5, c6, c7, c8, c9⟩ := HC.out w1 HB1.out
        have hb2 := below1 w1 (.cells #[.int .i8 x.f, .int .u16 x.g0, .int .u16 x.g1, .int .u16 x.g2, .int .u16 x.g3, .int .u16 x.g4, .int .u16 x.g5, .int .u16 x.g6, .int .u16 x.g7, .int .i64 x.p] 27)
        have HT2 := Lib.hid (HT1.out.below hb2)
        have HB2 := Lib.hid (HB1.out.trans (hb2.mono hsz1))
        have hsz2 := HB2.out.size
        clear hb2
        go_wp2_with (at_builtin; refine wpList_append_loose AK rfl _ _ rfl wb.heap.size a1 m1 c1 rfl ((O.take k).filter (fun z => decide (z ∉ bad))) HM1.out HT2.out.l1 (some ⟨w1.heap.size, 0, none⟩) 1 1 rfl [x] rfl (by simp) (rowC_at (K := AK) w1 27 [x] _ _ 1 rfl rfl rfl (by simp)) (by rw [← HM1.out]; show m1 + 1 ≤ 4000000; omega) hsz2 ((O.take (k + 1)).filter (fun z => decide (z ∉ bad))) HS.out ?_; intro a3 c3 w3 hO3 hG3 hP3; have HT3 := Lib.hid (HT2.out.app hO3 hG3 hP3); have HB3 := Lib.hid (two_grown HB2.out hG3 hsz2); clear hO3 hG3 hP3)
        exact ⟨⟨k + 1, _, m2, a3, a2, c3, c2, rfl, rfl, by go_num, by omega, by first | exact part_le _ O (k + 1) | (have h := part_le (fun z => decide (z ∉ bad)) O (k + 1); simpa using h), by omega, Lib.hid (by first | rfl | simp), Lib.hid (by rw [HN.out]; exact HM2.out), Lib.hid (by rw [HN.out]; exact HT3.out), HB3⟩, by simp [intOf]; omega⟩
    · obtain rfl : k = O.length := by omega
      have hm1 := HM1.out
      have hm2 := HM2.out
      have hT := HT.out
      rw [List.take_length] at hm1 hm2 hT
      have hgd : O.filter (fun z => decide (z ∉ bad)) = Turn.good l bad := by rw [HOe.out]; rfl
      have hil : O.filter (fun z => decide (z ∈ bad)) = Turn.ill l bad := by rw [HOe.out]; rfl
      rw [hgd] at hm1 hT
      rw [hil] at hm2 hT
      obtain ⟨T1, hT1⟩ : ∃ T, T = Turn.turns famA (Turn.good l bad) := ⟨_, rfl⟩
      obtain ⟨T2, hT2⟩ : ∃ T, T = Turn.turns famA (Turn.ill l bad) := ⟨_, rfl⟩
      have hl1 : T1.length ≤ 400 := by rw [hT1, Turn.turns_len]; omega
      have hl2 : T2.length ≤ 400 := by rw [hT2, Turn.turns_len]; omega
      have HFin := Lib.hid (show L = T1 ++ T2 by rw [HL.out, hT1, hT2]; rfl)
      have HF1 := Lib.hid (rturns_any (Turn.good l bad) a1 c1 T1 wr hT1 (by omega) hT.l1.row)
      rw [← hm1] at HF1
      have HF2 := Lib.hid (fun (W : World) (h : Below wr.heap.size wr W) => rturns_any (Turn.ill l bad) a2 c2 T2 W hT2 (by omega) (hT.l2.below h).row)
      rw [← hm2] at HF2
      clear hm1 hm2 hT hgd hil hT1 hT2 HT HM1 HM2
      go_wp2_with fail
      with_reducible refine HF1.out.mono ?_
      rintro e w1 ⟨b1, e1, rfl, hO1, hb1⟩
      have HO1 := Lib.hid hO1
      have HB1 := Lib.hid hb1
      clear hO1 hb1
      go_wp2_with fail
      with_reducible refine (HF2.out w1 HB1.out).mono ?_
      rintro e w2 ⟨b2, e2, rfl, hO2, hb2⟩
      have HO2 := Lib.hid hO2.row
      have HO3 := Lib.hid (HO1.out.below hb2 (Nat.le_refl _))
      have HB2 := Lib.hid (HB1.out.trans (hb2.mono HB1.out.size))
      clear hO2 hb2
      go_wp2_with (at_builtin; refine AK.wpList_append_owned rfl _ _ rfl wr.heap.size (.slice b1 T1.length e1) rfl T1 HO3.out b2 T2.length e2 rfl T2 rfl HO2.out (by omega) HB2.out.size L HFin.out ?_; intro a3 c3 w3 hO3 hG3; have HO4 := Lib.hid hO3.row; have HB3 := Lib.hid (HB2.out.grown hG3 HB2.out.size (fun j hj => (HO3.out.lt j hj).1)); clear hO3 hG3)
      go_ret
      exact ⟨a3, c3, rfl, HO4.out, HB0.out.trans ((HB.out.trans (HB3.out.mono hsz)).mono HB0.out.size)⟩

def firstZ (n : Int) (l : List Ad) : List Ad := l.take n.toNat
set_option maxHeartbeats 4000000 in
set_option maxRecDepth 1000000 in
theorem rfirst_any (n : Int) (l : List Ad) (s : Option Addr) (c : Nat) (L : List Ad) (w : World) (hL : L = firstZ n l) (hl : l.length ≤ 1000) (hR : AK.RowC w s c l) :
    Calls Try.prog 19 #[.int .i64 n, .slice s l.length c] w fun e w' => ∃ a1 c1, e = .returned (.slice a1 L.length c1) ∧ AK.RowC w' a1 c1 L ∧ Below w.heap.size w w' := by
  obtain ⟨m, hm1, hm2, hm3⟩ : ∃ m : Nat, m ≤ l.length ∧ L = l.take m ∧ min (max n 0) (l.length : Int) = (m : Int) := by
    refine ⟨min n.toNat l.length, Nat.min_le_right _ _, ?_, ?_⟩
    · rw [hL]; unfold firstZ; rw [← List.take_eq_take_min]
    · omega
  have hm4 : min (max n 0) (l.length : Int) = (m : Int) := hm3
  have hm5 : (if (l.length : Int) < if n < 0 then 0 else n then (l.length : Int) else if n < 0 then 0 else n) = (m : Int) := by split <;> split at * <;> omega
  have hc1 : (m : Int) ≤ (c : Int) := by have := hR.1; omega
  have hmi : (m : Int) ≤ (l.length : Int) := by omega
  have hm0 : (0 : Int) ≤ (m : Int) := by omega
  have hLl : L.length = m := by rw [hm2, List.length_take]; omega
  have HT := Lib.hid (hm2 ▸ hR.take (a' := s) m hm1 rfl : AK.RowC w s c L)
  have HLl := Lib.hid hLl
  clear hR hL hm2 hLl hm3
  go_enter Try.func19, Try.ntmps19
  go_wp2_with (at_builtin; refine AK.wpList_append_rows rfl _ _ rfl w.heap.size _ rfl [] (dst_bare _ _ _) s m c rfl L HLl.out.symm (HT.out.below (below1 w _)) (by rw [HLl.out]; simp; omega) (by first | (simp; done) | (simp; omega)) ?_; intro a1 c1 w1 hD1 hM1 hB1; rw [List.nil_append] at hM1; have HR1 := Lib.hid hM1.row; have HB1 := Lib.hid ((below1 w (.cells #[] 27)).trans hB1); simp only [List.nil_append]; clear hD1 hM1 hB1)
  all_goals go_ret
  all_goals exact ⟨a1, c1, rfl, HR1.out, HB1.out⟩
end Go.Proofs.Ytcihcdifjnobjaa
