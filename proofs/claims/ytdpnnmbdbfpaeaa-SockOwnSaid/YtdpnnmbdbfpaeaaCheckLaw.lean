/- Of a record that goes together with its sockets one taken away, or put twice, does not. -/
import Derived.Test.YtdpnnmbdbfpaeaaSpecs
import Derived.Deep.RegionLaw
set_option linter.unusedSimpArgs false
set_option linter.unusedVariables false
namespace Go.Proofs.Ytdpnnmbdbfpaeaa
open Go.RowKit Go.Proofs.Ytdpnnmbdbfpaeaa.Kind

theorem gone_at (gone : Int) (n : Nat) (hn : n ≠ 0) (hn2 : n ≤ 1000) : ∃ G : Nat, G < n ∧ (wrap64 (gone.tmod (n : Int) + (n : Int))).tmod (n : Int) = (G : Int) := by
  have h1 : -(n : Int) < gone.tmod n ∧ gone.tmod n < n := by
    rw [Int.tmod_eq_emod]
    have h2 := Int.emod_nonneg gone (show (n : Int) ≠ 0 by omega)
    have h3 := Int.emod_lt_of_pos gone (show (0 : Int) < n by omega)
    split <;> simp <;> omega
  have h2 : wrap64 (gone.tmod (n : Int) + (n : Int)) = gone.tmod (n : Int) + (n : Int) := by
    unfold wrap64
    omega
  rw [h2, Int.tmod_eq_emod_of_nonneg (by omega)]
  have h3 := Int.emod_nonneg (gone.tmod (n : Int) + (n : Int)) (show (n : Int) ≠ 0 by omega)
  have h4 := Int.emod_lt_of_pos (gone.tmod (n : Int) + (n : Int)) (show (0 : Int) < n by omega)
  exact ⟨((gone.tmod (n : Int) + (n : Int)) % (n : Int)).toNat, by omega, by omega⟩
theorem rowC_draw {α : Type} {K : Kind Try.prog α} {w : World} {a : Option Addr} {c : Nat} {l : List α} (h : K.RowC w a c l) : K.RowC w.drew a c l := h
theorem own_empty {α : Type} (K : Kind Try.prog α) (w : World) : K.Own (w.alloc (.cells #[] K.T)) w.heap.size (.slice (some ⟨w.heap.size, 0, none⟩) 0 0) [] :=
  own_at (K := K) w [] #[] w.heap.size w.heap.size rfl (Nat.le_refl _) rfl (by simp)
theorem own_draw {α : Type} {K : Kind Try.prog α} {w : World} {base : Nat} {v : Value} {l : List α} (h : K.Own w base v l) : K.Own w.drew base v l := h

theorem chk_below {W Z w5 : World} {g n c : Nat} (hb : Below W.heap.size W Z) (h : Z.grownBy w5 (Value.slice (some ⟨g, 0, none⟩) n c).ownBlock) (hg : W.heap.size ≤ g) : Below W.heap.size W w5 :=
  hb.grown h hb.size (fun k e => by
    have e' : some g = some k := e
    injection e' with e'
    omega)

theorem own_ge {w : World} {base : Nat} {v : Value} {l : List Nk} (h : NK.Own w base v l) {g : Nat} (hg : v.ownBlock = some g) : base ≤ g ∧ g < w.heap.size := by
  rcases h.2 with ⟨rfl, _⟩ | ⟨g', cap, cur, rfl, h3, h4, h5⟩
  · cases hg
  · have : g' = g := by simpa [Value.ownBlock] using hg
    subst this
    exact ⟨h3, lt_of_block h4⟩
theorem own_next {W0 W w' : World} {n0 base : Nat} {v : Value} {l : List Nk} (hb : Below n0 W0 W) (ho : NK.Own W base v l) (hg : W.grownBy w' v.ownBlock) (h0 : n0 ≤ base) (hn : n0 ≤ W0.heap.size) : Below n0 W0 w' :=
  hb.grown hg (Nat.le_trans hn hb.size) (fun k e => Nat.le_trans h0 (own_ge ho e).1)
theorem row_other {W w' : World} {base g : Nat} {v : Value} {l k : List Nk} (ho : NK.Own W base v l) (hg : W.grownBy w' v.ownBlock) (hr : NK.RowC W (some ⟨g, 0, none⟩) 1 k) (hne : v.ownBlock ≠ some g) : NK.RowC w' (some ⟨g, 0, none⟩) 1 k := by
  refine ⟨hr.1, hr.2.1, hr.2.2.1, fun hk => ?_⟩
  obtain ⟨b, o, h1, h2, h3⟩ := hr.2.2.2 hk
  injection h1 with h1
  injection h1 with h4 h5
  subst h4 h5
  have hbk := hg.block g h2 (fun e => hne e.symm)
  have := hg.size
  refine ⟨g, 0, rfl, by omega, fun j x hx i u hu => ?_⟩
  rw [World.cell?_of_block (w := W) (w' := w') (a := ⟨g, 0 + j * NK.k + i, none⟩) hbk]
  exact h3 j x hx i u hu

set_option maxHeartbeats 16000000 in
set_option maxRecDepth 1000000 in
theorem sockcheck_walk (HC : CheckSpec) (HWk : WakesSpec) (S : List Sk) (M : List Nk) (hlow : ∀ m ∈ M, -9223372036854775808 ≤ m.at_) (n : Int) (a b : Option Addr) (c d : Nat) (w : World) (hA : SK.RowC w a c S) (hB : NK.RowC w b d M) :
    Calls Try.prog 5 #[.slice a S.length c, .slice b M.length d, .int .i64 n] w fun e w' => e = .returned (.bool true) ∧ Below w.heap.size w w' := by
  have HWk := Lib.hid (fun w => HWk w)
  by_cases hg : 300 < S.length ∨ 600 < M.length
  · have HG := Lib.hid (fun w => great_any a b S.length M.length c d true (by rcases hg with h | h <;> simp [h]) w)
    clear hA hB HC hg hlow
    go_enter Try.func5, Try.ntmps5
    go_wp2_with fail
    with_reducible refine (HG.out _).mono ?_
    rintro e w1 ⟨rfl, rfl⟩
    go_wp2_with fail
    with_reducible refine (HWk.out _).mono ?_
    rintro e w2 ⟨rfl, hb⟩
    have HB := Lib.hid hb
    clear hb
    go_wp2_with fail
    go_ret
    exact ⟨rfl, HB.out⟩
  · have HG := Lib.hid (fun w => great_any a b S.length M.length c d false (by simp; omega) w)
    have h300 : S.length ≤ 300 := by omega
    have h600 : M.length ≤ 600 := by omega
    obtain ⟨r, hr⟩ : ∃ r : Int, r = (if goesB S M = true then 0 else 80) := ⟨_, rfl⟩
    have HCk := Lib.hid (fun w h1 h2 => HC S M r a b c d w (by omega) (by omega) hlow hr h1 h2)
    have HA := Lib.hid hA
    have HB := Lib.hid hB
    by_cases hgo : goesB S M = true
    · obtain rfl : r = 0 := by rw [hr, if_pos hgo]
      by_cases hm0 : M.length = 0
      · obtain rfl : M = [] := List.length_eq_zero_iff.1 hm0
        simp only [List.length_nil] at HG HCk
        clear hA hB hg HC hr hgo hm0 hlow
        simp only [List.length_nil]
        go_enter Try.func5, Try.ntmps5
        go_wp2_with fail
        with_reducible refine (HG.out _).mono ?_
        rintro e w1 ⟨rfl, rfl⟩
        go_wp2_with fail
        with_reducible refine (HCk.out _ HA.out HB.out).mono ?_
        rintro e w2 ⟨rfl, hb⟩
        have HB2 := Lib.hid hb
        clear hb
        go_wp2_with fail
        with_reducible refine (HWk.out _).mono ?_
        rintro e w3 ⟨rfl, hb⟩
        have HB3 := Lib.hid (HB2.out.trans (hb.mono HB2.out.size))
        clear hb
        go_wp2_with fail
        go_ret
        exact ⟨rfl, HB3.out⟩
      · obtain ⟨G, hG, hGe⟩ := gone_at n M.length hm0 (by omega)
        obtain ⟨x, hx⟩ : ∃ x, M[G]? = some x := ⟨_, List.getElem?_eq_getElem hG⟩
        have hsplit : M = M.take G ++ x :: M.drop (G + 1) := by
          conv => lhs; rw [← List.take_append_drop G M, drop_at M G x hx]
        obtain ⟨L, hL⟩ : ∃ L, L = M.take G ++ M.drop (G + 1) := ⟨_, rfl⟩
        obtain ⟨K, hK⟩ : ∃ K, K = M.take G ++ x :: x :: M.drop (G + 1) := ⟨_, rfl⟩
        have hLB : goesB S L = false := by rw [hL]; rw [hsplit] at hgo; exact goes_less hgo
        have hKB : goesB S K = false := by rw [hK]; rw [hsplit] at hgo; exact goes_more hgo
        have hlowL : ∀ m ∈ L, -9223372036854775808 ≤ m.at_ := fun m hm => hlow m (by
          rw [hL] at hm
          rw [hsplit]
          simp only [List.mem_append, List.mem_cons] at hm ⊢
          rcases hm with h | h
          · exact .inl h
          · exact .inr (.inr h))
        have hlowK : ∀ m ∈ K, -9223372036854775808 ≤ m.at_ := fun m hm => hlow m (by
          rw [hK] at hm
          rw [hsplit]
          simp only [List.mem_append, List.mem_cons] at hm ⊢
          rcases hm with h | h | h | h
          · exact .inl h
          · exact .inr (.inl h)
          · exact .inr (.inl h)
          · exact .inr (.inr h))
        have hLl : L.length ≤ 700 := by rw [hL]; simp; omega
        have hKl : K.length ≤ 700 := by rw [hK]; simp; omega
        have HC1 := Lib.hid (fun b d w h1 h2 => HC S L 80 a b c d w (by omega) (by omega) hlowL (by rw [hLB]; rfl) h1 h2)
        have HC2 := Lib.hid (fun b d w h1 h2 => HC S K 80 a b c d w (by omega) (by omega) hlowK (by rw [hKB]; rfl) h1 h2)
        have HSp := Lib.hid hsplit
        have HLL := Lib.hid hL
        have HKK := Lib.hid hK
        have HX := Lib.hid hx
        have hmi : ¬ (M.length : Int) = 0 := by omega
        have hmi2 : ((M.length : Int) == 0) = false := by rw [beq_eq_false_iff_ne]; omega
        have hGi : (G : Int) < (M.length : Int) := by omega
        have hG0 : ¬ (G : Int) < 0 := by omega
        have hGn : IntKind.i64.wrap ((G : Int) + 1) = (G : Int) + 1 := by rw [IntKind.wrap_i64]; omega
        clear hA hB hg HC hr hgo hsplit hL hK hLB hKB hx hlow hlowL hlowK
        go_enter Try.func5, Try.ntmps5
        go_wp2_with fail
        with_reducible refine (HG.out _).mono ?_
        rintro e w1 ⟨rfl, rfl⟩
        go_wp2_with fail
        with_reducible refine (HCk.out _ HA.out HB.out).mono ?_
        rintro e w2 ⟨rfl, hb⟩
        have HB2 := Lib.hid hb
        have HBm := Lib.hid (HB.out.below hb)
        clear hb
        go_upto_region 4 with fail
        obtain ⟨gb, ob, hbb, hgb, hat⟩ := HBm.out.2.2.2 (by omega)
        subst hbb
        have hmd : M.length ≤ d := HBm.out.1
        have hmdi : (G : Int) + 1 ≤ (M.length : Int) := by omega
        have hmd2 : (M.length : Int) ≤ (d : Int) := by omega
        have hmd3 : (G : Int) ≤ (d : Int) := by omega
        have hmd4 : (0 : Int) ≤ (G : Int) + 1 := by omega
        have hTake := HBm.out.take (a' := some ⟨gb, ob, none⟩) G (by omega) rfl
        obtain ⟨p1, hp1⟩ : ∃ p1, (if d = G + 1 then some (⟨gb, ob, none⟩ : Addr) else some ⟨gb, ob + (G + 1) * 3, none⟩) = p1 := ⟨_, rfl⟩
        have hDrop := HBm.out.drop (a' := p1) (G + 1) (by omega) (by rw [← hp1]; simp [add_at', NK])
        have HO0 := Lib.hid (own_draw (own_empty NK w2))
        have HM0 := Lib.hid (rowC_draw (hTake.below (below1 w2 (.cells #[] 51))))
        have HD0 := Lib.hid hDrop
        have HBZ := Lib.hid (below1 w2 (.cells #[] 51)).drew
        have hlt1 : (M.take G).length = G := by simp; omega
        have hld1 : (M.drop (G + 1)).length = M.length - (G + 1) := by simp
        obtain ⟨L1, hL1⟩ : ∃ L1, L1 = ([] : List Nk) ++ M.take G := ⟨_, rfl⟩
        have HL1 := Lib.hid hL1
        have HL1l := Lib.hid (show L1.length = G by rw [hL1]; simp; omega)
        have HL2 := Lib.hid (show L = L1 ++ M.drop (G + 1) by rw [hL1, HLL.out]; rfl)
        clear hat hTake hDrop hL1 hlt1 hld1
        go_region_law (first
          | (refine NK.step_append_owned rfl _ _ rfl w2.heap.size (.slice (some ⟨w2.heap.size, 0, none⟩) 0 0) rfl [] HO0.out (some ⟨gb, ob, none⟩) G d rfl (M.take G) (by simp; omega) HM0.out (by simp; omega) (by simp) L1 HL1.out ?_; intro a1 c1 w5 hO1 hG1; have HO1 := Lib.hid hO1; have HG1 := Lib.hid hG1; clear hO1 hG1)
          | (refine NK.step_append_owned rfl _ _ rfl w2.heap.size (.slice a1 L1.length c1) rfl L1 HO1.out p1 (M.length - (G + 1)) (d - (G + 1)) rfl (M.drop (G + 1)) (by simp) (HD0.out.below (chk_below HBZ.out HG1.out (Nat.le_refl _))) (by have := HL1l.out; simp; omega) (chk_below HBZ.out HG1.out (Nat.le_refl _)).size L HL2.out ?_; intro a2 c2 w6 hO2 hG2; have HO2 := Lib.hid hO2; have HG2 := Lib.hid hG2; clear hO2 hG2))
        have HB5 := Lib.hid (chk_below HBZ.out HG1.out (Nat.le_refl _))
        have HB6 := Lib.hid (own_next HB5.out HO1.out HG2.out (Nat.le_refl _) (Nat.le_refl _))
        have HO6 := Lib.hid HO2.out.row
        have hs6 : w2.heap.size ≤ w6.heap.size := HB6.out.size
        have hgb6 : gb < w6.heap.size := by omega
        have HM6 := Lib.hid (HBm.out.below HB6.out)
        have hGle : G ≤ M.length := by omega
        obtain ⟨bz, oz, hbz, hgz, hat6⟩ := HM6.out.2.2.2 (by omega)
        injection hbz with hbz
        injection hbz with e1 e2
        subst e1 e2
        obtain ⟨x0, x1, x2⟩ := NK.three hat6 HX.out
        have hTake := HM6.out.take (a' := some ⟨gb, ob, none⟩) G (by omega) rfl
        obtain ⟨p2, hp2⟩ : ∃ p2, (if d = G then some (⟨gb, ob, none⟩ : Addr) else some ⟨gb, ob + G * 3, none⟩) = p2 := ⟨_, rfl⟩
        have hDrop := HM6.out.drop (a' := p2) G (by omega) (by rw [← hp2]; simp [add_at', NK])
        have HAT6 := Lib.hid hat6
        have HT6 := Lib.hid hTake
        have HD6 := Lib.hid hDrop
        have HK1 := Lib.hid (show L1.length = (M.take G).length by rw [HL1l.out]; simp; omega)
        obtain ⟨K2, hK2⟩ : ∃ K2, K2 = L1 ++ [x] := ⟨_, rfl⟩
        have HK2 := Lib.hid hK2
        have HK3 := Lib.hid (show K = K2 ++ M.drop G by rw [hK2, HL1.out, HKK.out, drop_at M G x HX.out]; simp)
        have HK2l := Lib.hid (show K2.length = G + 1 by rw [hK2]; simp; exact HL1l.out)
        -- the three orders' first append
        have hoa := own_empty NK (w6.alloc (.cells #[.bool x.shut, .int .i64 x.sock, .int .i64 x.at_] 51))
        rw [World.size_alloc] at hoa
        have HOA := Lib.hid (own_draw (hoa.mono (b2 := w6.heap.size) (by omega)))
        clear hoa
        have HOB := Lib.hid (own_draw ((own_empty NK w6).below (below1 (w6.alloc (.cells #[] 51)) (.cells #[.bool x.shut, .int .i64 x.sock, .int .i64 x.at_] 51)) (Nat.le_refl _)))
        have HOC := Lib.hid (own_draw (own_empty NK w6))
        have HBA := Lib.hid (below2 w6 (.cells #[.bool x.shut, .int .i64 x.sock, .int .i64 x.at_] 51) (.cells #[] 51)).drew
        have HBB := Lib.hid (below2 w6 (.cells #[] 51) (.cells #[.bool x.shut, .int .i64 x.sock, .int .i64 x.at_] 51)).drew
        have HBC := Lib.hid (below1 w6 (.cells #[] 51)).drew
        have HRA := Lib.hid (rowC_draw ((rowC_at (K := NK) w6 51 [x] #[.bool x.shut, .int .i64 x.sock, .int .i64 x.at_] w6.heap.size 1 rfl rfl rfl (by simp)).below (below1 (w6.alloc (.cells #[.bool x.shut, .int .i64 x.sock, .int .i64 x.at_] 51)) (.cells #[] 51))))
        have HRB := Lib.hid (rowC_draw (rowC_at (K := NK) (w6.alloc (.cells #[] 51)) 51 [x] #[.bool x.shut, .int .i64 x.sock, .int .i64 x.at_] (w6.heap.size + 1) 1 (by simp) rfl rfl (by simp)))
        clear hTake hDrop hat6 hK2 HO2 HG2 HO1 HG1 HB5
        go_upto_region 5 with fail
        go_region_law (first
          | (refine NK.step_append_owned rfl _ _ rfl w6.heap.size (.slice (some ⟨w6.heap.size + 1, 0, none⟩) 0 0) rfl [] HOA.out (some ⟨gb, ob, none⟩) G d rfl (M.take G) (by simp; omega) (HT6.out.below HBA.out) (by simp; omega) (by simp <;> omega) L1 HL1.out ?_; intro a7 c7 w7 hO hG; have HO7 := Lib.hid hO; have HB7 := Lib.hid (own_next HBA.out HOA.out hG (Nat.le_refl _) (Nat.le_refl _)); have HR7 := Lib.hid (row_other HOA.out hG HRA.out (by simp [Value.ownBlock] <;> omega)); clear hO hG)
          | (refine NK.step_append_owned rfl _ _ rfl w6.heap.size (.slice (some ⟨w6.heap.size, 0, none⟩) 0 0) rfl [] HOB.out (some ⟨gb, ob, none⟩) G d rfl (M.take G) (by simp; omega) (HT6.out.below HBB.out) (by simp; omega) (by simp <;> omega) L1 HL1.out ?_; intro a7 c7 w7 hO hG; have HO7 := Lib.hid hO; have HB7 := Lib.hid (own_next HBB.out HOB.out hG (Nat.le_refl _) (Nat.le_refl _)); have HR7 := Lib.hid (row_other HOB.out hG HRB.out (by simp [Value.ownBlock] <;> omega)); clear hO hG)
          | (refine NK.step_append_owned rfl _ _ rfl w6.heap.size (.slice (some ⟨w6.heap.size, 0, none⟩) 0 0) rfl [] HOC.out (some ⟨gb, ob, none⟩) G d rfl (M.take G) (by simp; omega) (HT6.out.below HBC.out) (by simp; omega) (by simp <;> omega) L1 HL1.out ?_; intro a7 c7 w7 hO hG; have HO7 := Lib.hid (Own.below hO (below1 w7 (.cells #[.bool x.shut, .int .i64 x.sock, .int .i64 x.at_] 51)) (Nat.le_refl _)); have HB7 := Lib.hid ((own_next HBC.out HOC.out hG (Nat.le_refl _) (Nat.le_refl _)).trans ((below1 w7 (.cells #[.bool x.shut, .int .i64 x.sock, .int .i64 x.at_] 51)).mono (own_next HBC.out HOC.out hG (Nat.le_refl _) (Nat.le_refl _)).size)); have HR7 := Lib.hid (rowC_at (K := NK) w7 51 [x] #[.bool x.shut, .int .i64 x.sock, .int .i64 x.at_] w7.heap.size 1 rfl rfl rfl (by simp)); obtain ⟨q0, q1, q2⟩ := NK.three (HAT6.out.below (own_next HBC.out HOC.out hG (Nat.le_refl _) (Nat.le_refl _)) hgb6) HX.out; clear hO hG)
          | (refine NK.step_append_owned rfl _ _ rfl w6.heap.size (.slice a7 L1.length c7) rfl L1 HO7.out (some ⟨_, 0, none⟩) 1 1 rfl [x] rfl HR7.out (by have := HL1l.out; simp; omega) HB7.out.size K2 HK2.out ?_; intro a8 c8 w8 hO hG; have HO8 := Lib.hid hO; have HB8 := Lib.hid (own_next HB7.out HO7.out hG (Nat.le_refl _) (Nat.le_refl _)); clear hO hG)
          | (refine NK.step_append_owned rfl _ _ rfl w6.heap.size (.slice a8 K2.length c8) rfl K2 HO8.out p2 (M.length - G) (d - G) rfl (M.drop G) (by simp) (HD6.out.below HB8.out) (by have := HK2l.out; simp; omega) HB8.out.size K HK3.out ?_; intro a9 c9 w9 hO hG; have HO9 := Lib.hid hO.row; have HB9 := Lib.hid (own_next HB8.out HO8.out hG (Nat.le_refl _) (Nat.le_refl _)); clear hO hG))
        all_goals
          have HA9 := Lib.hid (((HA.out.below HB2.out).below HB6.out).below HB9.out)
          have HX1 := Lib.hid (HC1.out a2 c2 w9 HA9.out (HO6.out.below HB9.out))
          have HBf := Lib.hid (HB2.out.trans ((HB6.out.trans (HB9.out.mono hs6)).mono HB2.out.size))
          go_wp2_with fail
          with_reducible refine HX1.out.mono ?_
          rintro e wa ⟨rfl, hb⟩
          have HX2 := Lib.hid (HC2.out a9 c9 wa (HA9.out.below hb) (HO9.out.below hb))
          have HBg := Lib.hid (HBf.out.trans (hb.mono HBf.out.size))
          clear hb HX1 HBf
          go_wp2_with fail
          with_reducible refine HX2.out.mono ?_
          rintro e wb ⟨rfl, hb⟩
          have HBh := Lib.hid (HBg.out.trans (hb.mono HBg.out.size))
          clear hb HX2 HBg
          go_wp2_with fail
          with_reducible refine (HWk.out _).mono ?_
          rintro e wc ⟨rfl, hb⟩
          have HBi := Lib.hid (HBh.out.trans (hb.mono HBh.out.size))
          clear hb HBh
          go_wp2_with fail
          go_ret
          exact ⟨rfl, HBi.out⟩
    · obtain rfl : r = 80 := by rw [hr, if_neg hgo]
      clear hA hB hg HC hr hgo hlow
      go_enter Try.func5, Try.ntmps5
      go_wp2_with fail
      with_reducible refine (HG.out _).mono ?_
      rintro e w1 ⟨rfl, rfl⟩
      go_wp2_with fail
      with_reducible refine (HCk.out _ HA.out HB.out).mono ?_
      rintro e w2 ⟨rfl, hb⟩
      have HB2 := Lib.hid hb
      clear hb
      go_wp2_with fail
      with_reducible refine (HWk.out _).mono ?_
      rintro e w3 ⟨rfl, hb⟩
      have HB3 := Lib.hid (HB2.out.trans (hb.mono HB2.out.size))
      clear hb
      go_wp2_with fail
      go_ret
      exact ⟨rfl, HB3.out⟩
end Go.Proofs.Ytdpnnmbdbfpaeaa
