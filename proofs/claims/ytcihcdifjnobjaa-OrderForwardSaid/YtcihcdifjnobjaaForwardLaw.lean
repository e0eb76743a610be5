/- OrderForward walked. -/
import Derived.Test.YtcihcdifjnobjaaLawB
import Derived.Test.YtcihcdifjnobjaaTurnsLaw
import Derived.Test.YtcihcdifjnobjaaWholeLaw
set_option linter.unusedSimpArgs false
set_option linter.unusedVariables false
namespace Go.Proofs.Ytcihcdifjnobjaa
open Go.RowKit Go.Proofs.Ytcihcdifjnobjaa.Kind

theorem rowC_draw {α : Type} {K : Kind Try.prog α} {w : World} {a : Option Addr} {c : Nat} {l : List α} (h : K.RowC w a c l) : K.RowC w.drew a c l := h
theorem own_empty {α : Type} (K : Kind Try.prog α) (w : World) : K.Own (w.alloc (.cells #[] K.T)) w.heap.size (.slice (some ⟨w.heap.size, 0, none⟩) 0 0) [] :=
  own_at (K := K) w [] #[] w.heap.size w.heap.size rfl (Nat.le_refl _) rfl (by simp)
theorem own_draw {α : Type} {K : Kind Try.prog α} {w : World} {base : Nat} {v : Value} {l : List α} (h : K.Own w base v l) : K.Own w.drew base v l := h
theorem own_ge {w : World} {base : Nat} {v : Value} {l : List Ad} (h : AK.Own w base v l) {g : Nat} (hg : v.ownBlock = some g) : base ≤ g ∧ g < w.heap.size := by
  rcases h.2 with ⟨rfl, _⟩ | ⟨g', cap, cur, rfl, h3, h4, h5⟩
  · cases hg
  · have : g' = g := by simpa [Value.ownBlock] using hg
    subst this
    exact ⟨h3, lt_of_block h4⟩
theorem own_next {W0 W w' : World} {n0 base : Nat} {v : Value} {l : List Ad} (hb : Below n0 W0 W) (ho : AK.Own W base v l) (hg : W.grownBy w' v.ownBlock) (h0 : n0 ≤ base) (hn : n0 ≤ W0.heap.size) : Below n0 W0 w' :=
  hb.grown hg (Nat.le_trans hn hb.size) (fun k e => Nat.le_trans h0 (own_ge ho e).1)
theorem row_other {W w' : World} {base g : Nat} {v : Value} {l k : List Ad} (ho : AK.Own W base v l) (hg : W.grownBy w' v.ownBlock) (hr : AK.RowC W (some ⟨g, 0, none⟩) 1 k) (hne : v.ownBlock ≠ some g) : AK.RowC w' (some ⟨g, 0, none⟩) 1 k := by
  refine ⟨hr.1, hr.2.1, hr.2.2.1, fun hk => ?_⟩
  obtain ⟨b, o, h1, h2, h3⟩ := hr.2.2.2 hk
  injection h1 with h1
  injection h1 with h4 h5
  subst h4 h5
  have hbk := hg.block g h2 (fun e => hne e.symm)
  have := hg.size
  refine ⟨g, 0, rfl, by omega, fun j x hx i u hu => ?_⟩
  rw [World.cell?_of_block (w := W) (w' := w') (a := ⟨g, 0 + j * AK.k + i, none⟩) hbk]
  exact h3 j x hx i u hu
theorem good_more (l m : List Ad) (x : Ad) : Turn.good l (m ++ [x]) = (Turn.good l m).filter (fun y => decide (y ≠ x)) := by
  unfold Turn.good
  rw [List.filter_filter]
  refine List.filter_congr fun y _ => ?_
  by_cases h1 : y ∈ m <;> by_cases h2 : y = x <;> simp [h1, h2]
theorem fwd_place {l m : List Ad} {x z : Ad} {i : Nat} (hall : ∀ y ∈ l, famA y = 4 ∨ famA y = 6) (hz : (Turn.list famA l m)[i]? = some z) (hm : z ∉ m) (hx : z ≠ x) : placeZ (Turn.list famA l (m ++ [x])) z ≤ i := by
  have hn := Turn.list_nodup (fam := famA) l (m ++ [x])
  have hi : (Turn.turns famA (Turn.good l m))[i]? = some z := by
    unfold Turn.list at hz
    rw [List.getElem?_append] at hz
    split at hz
    · exact hz
    · exact absurd (Turn.mem_ill.1 (Turn.mem_turns.1 (List.mem_of_getElem? hz))).2 hm
  obtain ⟨j, hj, hjz⟩ := Turn.forward (c := 4) (d := 6) (by decide) (fun y hy => hall y (Turn.mem_good.1 hy).1) ((Turn.once_nodup l).filter _) hx hi
  rw [← good_more] at hjz
  have hjL : (Turn.list famA l (m ++ [x]))[j]? = some z := by
    unfold Turn.list
    obtain ⟨h1, h2⟩ := List.getElem?_eq_some_iff.1 hjz
    rw [List.getElem?_append, if_pos h1]
    exact hjz
  rw [whole_at hn hjL]
  omega
theorem listIs {L l bad : List Ad} (h : L = Turn.list famA l bad) (h1 : OkL l) (h2 : OkL bad) : ListIs L l bad := ⟨h, h1, h2⟩
set_option maxHeartbeats 40000000 in
set_option maxRecDepth 1000000 in
theorem orderforward_walk (HOn : OnceSpec) (HTu : TurnsSpec) (HLi : ListSpec) (HFi : FirstSpec) (HPl : PlaceSpec) (HWk : WakesSpec) (l m : List Ad) (x : Ad) (s s1 : Option Addr) (c c1 : Nat) (w : World) (kl : OkL l) (km : OkL m) (kx : okA x) (hR : AK.RowC w s c l) (hM : AK.RowC w s1 c1 m) :
    Calls Try.prog 6 #[.slice s l.length c, .slice s1 m.length c1, x.v] w fun e w' => e = .returned (.bool true) ∧ Below w.heap.size w w' := by
  have HOn := Lib.hid (fun l s c L w h h1 h2 => HOn l s c L w h h1 h2)
  have HTu := Lib.hid (fun l s c L w h h1 h2 => HTu l s c L w h h1 h2)
  have HLi := Lib.hid (fun l bad s v c d L w h h1 h2 h3 h4 => HLi l bad s v c d L w h h1 h2 h3 h4)
  have HFi := Lib.hid (fun n l s c L w h h1 h2 => HFi n l s c L w h h1 h2)
  have HPl := Lib.hid (fun l a s c r w h h1 h2 => HPl l a s c r w h h1 h2)
  have HWk := Lib.hid (fun w => HWk w)
  have HB := Lib.hid (Below.refl w.heap.size w)
  have Hl := Lib.hid hR
  have hml : l.length ≤ 9223372036854775807 := by have h1 := hR.1; have h2 := hR.2.1; unfold maxLen at h2; omega
  have Hm := Lib.hid hM
  have hmm : m.length ≤ 9223372036854775807 := by have h1 := hM.1; have h2 := hM.2.1; unfold maxLen at h2; omega
  have HKl := Lib.hid kl
  clear kl
  have HKm := Lib.hid km
  clear km
  clear hR hM
  have HKx := Lib.hid kx
  clear kx
  simp only [Ad.v]
  go_enter Try.func6, Try.ntmps6
  go_upto_region 1 with fail
  obtain ⟨q1, hq1⟩ : ∃ X, X = w.alloc (.cells #[.int .i8 x.f, .int .u16 x.g0, .int .u16 x.g1, .int .u16 x.g2, .int .u16 x.g3, .int .u16 x.g4, .int .u16 x.g5, .int .u16 x.g6, .int .u16 x.g7, .int .i64 x.p] 27) := ⟨_, rfl⟩
  have hb : Below w.heap.size w q1 := by rw [hq1]; exact below1 _ _
  have hL := laid1 w (.cells #[.int .i8 x.f, .int .u16 x.g0, .int .u16 x.g1, .int .u16 x.g2, .int .u16 x.g3, .int .u16 x.g4, .int .u16 x.g5, .int .u16 x.g6, .int .u16 x.g7, .int .i64 x.p] 27)
  rw [← hq1] at hL ⊢
  clear hq1
  obtain ⟨bx, hbx⟩ : ∃ n, n = w.heap.size := ⟨_, rfl⟩
  rw [← hbx] at hL ⊢
  have hsx : w.heap.size ≤ bx := by rw [hbx]; exact HB.out.size
  clear hbx
  replace Hl := Lib.hid (Hl.out.below hb)
  replace Hm := Lib.hid (Hm.out.below hb)
  replace HB := Lib.hid (HB.out.trans (hb.mono HB.out.size))
  clear hb
  have Hx := Lib.hid hL
  clear hL
  have HG := Lib.hid (rgreatA_any l s c _ q1 rfl hml)
  by_cases hg0 : 60 < l.length
  · rw [decide_eq_true hg0] at HG
    go_wp2_with fail
    (with_reducible refine HG.out.mono ?_)
    rintro e w1 ⟨rfl, hw1⟩
    subst w1
    go_wp2_with fail
    with_reducible refine (HWk.out _).mono ?_
    rintro e wf ⟨rfl, hb⟩
    have HBf := Lib.hid (HB.out.trans (hb.mono HB.out.size))
    clear hb
    go_wp2_with fail
    go_ret
    exact ⟨rfl, HBf.out⟩
  rw [decide_eq_false hg0] at HG
  go_wp2_with fail
  (with_reducible refine HG.out.mono ?_)
  rintro e w1 ⟨rfl, hw1⟩
  subst w1
  clear HG
  have HG := Lib.hid (rgreatA_any m s1 c1 _ q1 rfl hmm)
  by_cases hg1 : 60 < m.length
  · rw [decide_eq_true hg1] at HG
    go_wp2_with fail
    (with_reducible refine HG.out.mono ?_)
    rintro e w1 ⟨rfl, hw1⟩
    subst w1
    go_wp2_with fail
    with_reducible refine (HWk.out _).mono ?_
    rintro e wf ⟨rfl, hb⟩
    have HBf := Lib.hid (HB.out.trans (hb.mono HB.out.size))
    clear hb
    go_wp2_with fail
    go_ret
    exact ⟨rfl, HBf.out⟩
  rw [decide_eq_false hg1] at HG
  go_wp2_with fail
  (with_reducible refine HG.out.mono ?_)
  rintro e w1 ⟨rfl, hw1⟩
  subst w1
  clear HG
  have hll : l.length ≤ 60 := by omega
  have hlm : m.length ≤ 60 := by omega
  go_wp2_with fail
  go_loopw [6, 7] (fun r i wr => ∃ q : Nat, r = .bool false ∧ i = .int .i64 q ∧ q ≤ l.length ∧ Hid (All46 l q) ∧ Hid (Below q1.heap.size q1 wr)) (fun _ i _ => l.length - (intOf i).toNat)
  case atStart => exact ⟨0, rfl, rfl, by omega, Lib.hid (fun j x hj => by omega), Lib.hid (Below.refl _ _)⟩
  case round =>
    obtain ⟨q, rfl, rfl, hq, h46, hb0⟩ := hrel
    obtain ⟨wo, rfl⟩ : ∃ W : World, W = wr := ⟨_, rfl⟩
    have H46 := Lib.hid h46.out
    have hb := hb0.out
    have HBo := Lib.hid hb0.out
    clear h46 hb0
    replace Hl := Lib.hid (Hl.out.below hb)
    replace Hm := Lib.hid (Hm.out.below hb)
    replace Hx := Lib.hid ((hb.block _ (lt_of_block Hx.out)).trans Hx.out)
    replace HB := Lib.hid (HB.out.trans (hb.mono HB.out.size))
    clear hb
    by_cases hlt : q < l.length
    · obtain ⟨x, hx⟩ : ∃ x, l[q]? = some x := ⟨_, List.getElem?_eq_getElem hlt⟩
      obtain ⟨b0, o0, rfl, hbl, hat⟩ := Hl.out.2.2.2 (by omega)
      obtain ⟨⟨d0, d1, d2, d3, d4⟩, d5, d6, d7, d8, d9⟩ := AK.ten hat hx
      have hqi : (q : Int) < (l.length : Int) := by omega
      have hq0 : (0 : Int) ≤ (q : Int) := by omega
      by_cases h4 : x.f = 4
      · have hd4 : (x.f != 4) = false := by simp [h4]
        have HN := Lib.hid (all46_step H46.out hx (.inl h4))
        clear h4 hx hat
        go_wp2_with fail
        go_roundw
        case rel => exact ⟨q + 1, rfl, by go_num, by omega, HN, Lib.hid HBo.out⟩
        case measure => simp [intOf]; omega
      · have hd4 : (x.f != 4) = true := by simp [h4]
        by_cases h6 : x.f = 6
        · have hd6 : (x.f != 6) = false := by simp [h6]
          have HN := Lib.hid (all46_step H46.out hx (.inr h6))
          clear h4 h6 hx hat
          go_wp2_with fail
          go_roundw
          case rel => exact ⟨q + 1, rfl, by go_num, by omega, HN, Lib.hid HBo.out⟩
          case measure => simp [intOf]; omega
        · have hd6 : (x.f != 6) = true := by simp [h6]
          clear h4 h6 hx hat
          go_wp2_with fail
          with_reducible refine (HWk.out _).mono ?_
          rintro e wf ⟨rfl, hb⟩
          have HBf := Lib.hid (HB.out.trans (hb.mono HB.out.size))
          clear hb
          go_wp2_with fail
          go_ret
          exact ⟨rfl, HBf.out⟩
    · obtain rfl : q = l.length := by omega
      clear hlt hq HBo
      have hall := Lib.hid (all46_mem H46.out)
      clear H46
      obtain ⟨L, hL⟩ : ∃ x, x = Turn.list famA l m := ⟨_, rfl⟩
      obtain ⟨L2, hL2⟩ : ∃ X, X = Turn.list famA l (m ++ [x]) := ⟨_, rfl⟩
      have HFw := Lib.hid (show ∀ (i : Nat) (z : Ad), L[i]? = some z → z ∉ m → z ≠ x → placeZ L2 z ≤ i from fun i z hz h1 h2 => by rw [hL] at hz; rw [hL2]; exact fwd_place hall.out hz h1 h2)
      have hLL : L.length = L2.length := by rw [hL, hL2, Turn.list_len, Turn.list_len]
      have hLn : L.length ≤ 60 := by have h1 := Turn.list_len (fam := famA) l m; have h2 := Turn.once_len l; rw [hL]; omega
      have hne : ((L.length : Int) != (L2.length : Int)) = false := by rw [hLL]; simp
      replace hL := Lib.hid hL
      replace hL2 := Lib.hid hL2
      replace hLL := Lib.hid hLL
      have HX := Lib.hid (HLi.out l m s s1 c c1 L wo ⟨hL.out, HKl.out, HKm.out⟩ (by omega) (by omega) Hl.out Hm.out)
      go_wp2_with fail
      with_reducible refine HX.out.mono ?_
      rintro e w2 ⟨a1, b1, rfl, hR, hb⟩
      clear HX
      replace Hl := Lib.hid (Hl.out.below hb)
      replace Hm := Lib.hid (Hm.out.below hb)
      replace Hx := Lib.hid ((hb.block _ (lt_of_block Hx.out)).trans Hx.out)
      replace HB := Lib.hid (HB.out.trans (hb.mono HB.out.size))
      clear hb
      have HA := Lib.hid hR
      clear hR
      go_upto_region 9 with fail
      obtain ⟨L1, hL1⟩ : ∃ L1, L1 = ([] : List Ad) ++ m := ⟨_, rfl⟩
      have HL1 := Lib.hid hL1
      have HL1l := Lib.hid (show L1.length = m.length by rw [hL1]; simp)
      obtain ⟨M2, hM2⟩ : ∃ M2, M2 = L1 ++ [x] := ⟨_, rfl⟩
      have HM2 := Lib.hid hM2
      have HM2l := Lib.hid (show M2.length = m.length + 1 by rw [hM2]; simp; exact HL1l.out)
      have HL2 := Lib.hid (show L2 = Turn.list famA l M2 by rw [hL2.out, hM2, hL1]; simp)
      have HKM := Lib.hid (show OkL M2 by rw [hM2, hL1]; exact okL_snoc HKm.out HKx.out)
      clear hL1 hM2
      have hoa := own_empty AK (w2.alloc (.cells #[.int .i8 x.f, .int .u16 x.g0, .int .u16 x.g1, .int .u16 x.g2, .int .u16 x.g3, .int .u16 x.g4, .int .u16 x.g5, .int .u16 x.g6, .int .u16 x.g7, .int .i64 x.p] 27))
      rw [World.size_alloc] at hoa
      have HOA := Lib.hid (own_draw (hoa.mono (b2 := w2.heap.size) (by omega)))
      clear hoa
      have HOB := Lib.hid (own_draw ((own_empty AK w2).below (below1 (w2.alloc (.cells #[] 27)) (.cells #[.int .i8 x.f, .int .u16 x.g0, .int .u16 x.g1, .int .u16 x.g2, .int .u16 x.g3, .int .u16 x.g4, .int .u16 x.g5, .int .u16 x.g6, .int .u16 x.g7, .int .i64 x.p] 27)) (Nat.le_refl _)))
      have HOC := Lib.hid (own_draw (own_empty AK w2))
      have HBA := Lib.hid (below2 w2 (.cells #[.int .i8 x.f, .int .u16 x.g0, .int .u16 x.g1, .int .u16 x.g2, .int .u16 x.g3, .int .u16 x.g4, .int .u16 x.g5, .int .u16 x.g6, .int .u16 x.g7, .int .i64 x.p] 27) (.cells #[] 27)).drew
      have HBB := Lib.hid (below2 w2 (.cells #[] 27) (.cells #[.int .i8 x.f, .int .u16 x.g0, .int .u16 x.g1, .int .u16 x.g2, .int .u16 x.g3, .int .u16 x.g4, .int .u16 x.g5, .int .u16 x.g6, .int .u16 x.g7, .int .i64 x.p] 27)).drew
      have HBC := Lib.hid (below1 w2 (.cells #[] 27)).drew
      have HRA := Lib.hid (rowC_draw ((rowC_at (K := AK) w2 27 [x] #[.int .i8 x.f, .int .u16 x.g0, .int .u16 x.g1, .int .u16 x.g2, .int .u16 x.g3, .int .u16 x.g4, .int .u16 x.g5, .int .u16 x.g6, .int .u16 x.g7, .int .i64 x.p] w2.heap.size 1 rfl rfl rfl (by simp)).below (below1 (w2.alloc (.cells #[.int .i8 x.f, .int .u16 x.g0, .int .u16 x.g1, .int .u16 x.g2, .int .u16 x.g3, .int .u16 x.g4, .int .u16 x.g5, .int .u16 x.g6, .int .u16 x.g7, .int .i64 x.p] 27)) (.cells #[] 27))))
      have HRB := Lib.hid (rowC_draw (rowC_at (K := AK) (w2.alloc (.cells #[] 27)) 27 [x] #[.int .i8 x.f, .int .u16 x.g0, .int .u16 x.g1, .int .u16 x.g2, .int .u16 x.g3, .int .u16 x.g4, .int .u16 x.g5, .int .u16 x.g6, .int .u16 x.g7, .int .i64 x.p] (w2.heap.size + 1) 1 (by simp) rfl rfl (by simp)))
      obtain ⟨⟨z0, z1, z2, z3, z4, z5, z6, z7, z8, z9⟩, _⟩ := box_10 Hx.out
      obtain ⟨⟨n0, n1, n2, n3, n4, n5, n6, n7, n8, n9⟩, _⟩ := box_10 (((below1 w2 (.cells #[] 27)).block _ (lt_of_block Hx.out)).trans Hx.out)
      go_region_law (first
        | (refine AK.step_append_owned rfl _ _ rfl w2.heap.size (.slice (some ⟨w2.heap.size + 1, 0, none⟩) 0 0) rfl [] HOA.out s1 m.length c1 rfl m rfl (Hm.out.below HBA.out) (by simp <;> omega) (by simp <;> omega) L1 HL1.out ?_; intro a7 c7 w7 hO hG; have HO7 := Lib.hid hO; have HB7 := Lib.hid (own_next HBA.out HOA.out hG (Nat.le_refl _) (Nat.le_refl _)); have HR7 := Lib.hid (row_other HOA.out hG HRA.out (by simp [Value.ownBlock] <;> omega)); clear hO hG)
        | (refine AK.step_append_owned rfl _ _ rfl w2.heap.size (.slice (some ⟨w2.heap.size, 0, none⟩) 0 0) rfl [] HOB.out s1 m.length c1 rfl m rfl (Hm.out.below HBB.out) (by simp <;> omega) (by simp <;> omega) L1 HL1.out ?_; intro a7 c7 w7 hO hG; have HO7 := Lib.hid hO; have HB7 := Lib.hid (own_next HBB.out HOB.out hG (Nat.le_refl _) (Nat.le_refl _)); have HR7 := Lib.hid (row_other HOB.out hG HRB.out (by simp [Value.ownBlock] <;> omega)); clear hO hG)
        | (refine AK.step_append_owned rfl _ _ rfl w2.heap.size (.slice (some ⟨w2.heap.size, 0, none⟩) 0 0) rfl [] HOC.out s1 m.length c1 rfl m rfl (Hm.out.below HBC.out) (by simp <;> omega) (by simp <;> omega) L1 HL1.out ?_; intro a7 c7 w7 hO hG; have HO7 := Lib.hid (Own.below hO (below1 w7 (.cells #[.int .i8 x.f, .int .u16 x.g0, .int .u16 x.g1, .int .u16 x.g2, .int .u16 x.g3, .int .u16 x.g4, .int .u16 x.g5, .int .u16 x.g6, .int .u16 x.g7, .int .i64 x.p] 27)) (Nat.le_refl _)); have HB7 := Lib.hid ((own_next HBC.out HOC.out hG (Nat.le_refl _) (Nat.le_refl _)).trans ((below1 w7 (.cells #[.int .i8 x.f, .int .u16 x.g0, .int .u16 x.g1, .int .u16 x.g2, .int .u16 x.g3, .int .u16 x.g4, .int .u16 x.g5, .int .u16 x.g6, .int .u16 x.g7, .int .i64 x.p] 27)).mono (own_next HBC.out HOC.out hG (Nat.le_refl _) (Nat.le_refl _)).size)); have HR7 := Lib.hid (rowC_at (K := AK) w7 27 [x] #[.int .i8 x.f, .int .u16 x.g0, .int .u16 x.g1, .int .u16 x.g2, .int .u16 x.g3, .int .u16 x.g4, .int .u16 x.g5, .int .u16 x.g6, .int .u16 x.g7, .int .i64 x.p] w7.heap.size 1 rfl rfl rfl (by simp)); obtain ⟨⟨q0, q1, q2, q3, q4, q5, q6, q7, q8, q9⟩, _⟩ := box_10 (((own_next HBC.out HOC.out hG (Nat.le_refl _) (Nat.le_refl _)).block _ (lt_of_block Hx.out)).trans Hx.out); clear hO hG)
        | (refine AK.step_append_owned rfl _ _ rfl w2.heap.size (.slice a7 L1.length c7) rfl L1 HO7.out (some ⟨_, 0, none⟩) 1 1 rfl [x] rfl HR7.out (by have := HL1l.out; simp <;> omega) HB7.out.size M2 HM2.out ?_; intro a8 c8 w8 hO hG; have HO8 := Lib.hid hO.row; have HB8 := Lib.hid (own_next HB7.out HO7.out hG (Nat.le_refl _) (Nat.le_refl _)); clear hO hG)
        | (go_simp; go_at_call 16; (with_reducible refine (HLi.out l M2 s a8 c c8 L2 _ (listIs HL2.out HKl.out HKM.out) (by omega) (by have := HM2l.out; omega) (Hl.out.below HB8.out) HO8.out).mono ?_); rintro e wN ⟨aN, cN, rfl, hR9, hb9⟩; have HR9 := Lib.hid hR9; have HB9 := Lib.hid (HB8.out.trans (hb9.mono HB8.out.size)); clear hR9 hb9))
      all_goals
        have hb := HB9.out
        clear HB9
        replace Hl := Lib.hid (Hl.out.below hb)
        replace Hm := Lib.hid (Hm.out.below hb)
        replace HA := Lib.hid (HA.out.below hb)
        replace Hx := Lib.hid ((hb.block _ (lt_of_block Hx.out)).trans Hx.out)
        replace HB := Lib.hid (HB.out.trans (hb.mono HB.out.size))
        clear hb
        have HP := Lib.hid HR9.out
        go_wp2_with fail
        go_loopw [6, 10] (fun r i wr => ∃ kk : Nat, r = .bool false ∧ i = .int .i64 kk ∧ kk ≤ L.length ∧ Hid (Below wN.heap.size wN wr)) (fun _ i _ => L.length - (intOf i).toNat)
        case atStart => exact ⟨0, rfl, rfl, by omega, Lib.hid (Below.refl _ _)⟩
        case round =>
          obtain ⟨q, rfl, rfl, hqQ, hb0⟩ := hrel
          obtain ⟨wQ, rfl⟩ : ∃ W : World, W = wr := ⟨_, rfl⟩
          have hb := hb0.out
          have HQ := Lib.hid hb0.out
          clear hb0
          replace Hl := Lib.hid (Hl.out.below hb)
          replace Hm := Lib.hid (Hm.out.below hb)
          replace HA := Lib.hid (HA.out.below hb)
          replace HP := Lib.hid (HP.out.below hb)
          replace Hx := Lib.hid ((hb.block _ (lt_of_block Hx.out)).trans Hx.out)
          replace HB := Lib.hid (HB.out.trans (hb.mono HB.out.size))
          clear hb
          by_cases hltQ : q < L.length
          · obtain ⟨z, hz⟩ : ∃ z, L[q]? = some z := ⟨_, List.getElem?_eq_getElem hltQ⟩
            replace hz := Lib.hid hz
            obtain ⟨b2, o2, rfl, hbl, hat⟩ := HA.out.2.2.2 (by omega)
            have HCz := Lib.hid (fun (W : World) (h : Below wQ.heap.size wQ W) => AK.ten (hat.below h hbl) hz.out)
            clear hbl hat
            have hi1 : (q : Int) < (L.length : Int) := by omega
            have hi2 : (0 : Int) ≤ (q : Int) := by omega
            have hE := eql_ad z x
            have hgd := guard_ad
            obtain ⟨pb, hpb⟩ : ∃ r, r = placeZ m z := ⟨_, rfl⟩
            replace hpb := Lib.hid hpb
            obtain ⟨pc, hpc⟩ : ∃ r, r = placeZ L2 z := ⟨_, rfl⟩
            replace hpc := Lib.hid hpc
            by_cases hzx : z = x
            · rw [decide_eq_true hzx] at hE
              clear hzx
              go_upto_region 15 with fail
              refine ByOps.region_by_sk (by kernel_rfl) (ByOps.facts [.val (.slice (some ⟨b2, o2, none⟩) L.length b1), .val (.int .i64 (q : Int)), .val (.pointer (some ⟨b2, o2 + q * 10, none⟩)), .val (.agg #[.int .i8 z.f, .int .u16 z.g0, .int .u16 z.g1, .int .u16 z.g2, .int .u16 z.g3, .int .u16 z.g4, .int .u16 z.g5, .int .u16 z.g6, .int .u16 z.g7, .int .i64 z.p]), .val (.agg #[.int .i8 x.f, .int .u16 x.g0, .int .u16 x.g1, .int .u16 x.g2, .int .u16 x.g3, .int .u16 x.g4, .int .u16 x.g5, .int .u16 x.g6, .int .u16 x.g7, .int .i64 x.p]), .val (.bool true), .val (.bool true), .un, .un, .un, .un, .un, .un, .un, .val (.bool true)]) (ByOps.facts_up _) (by kernel_rfl) (fun i => i == 7 || i == 8 || i == 9 || i == 10 || i == 11 || i == 12 || i == 13) (ByOps.all_ops ?_) (ByOps.all_ops ?_) (ByOps.all_ops ?_) ?_
              · refine ⟨?_, ?_, ?_, ?_, ?_, ?_, ?_, ?_, ?_, ?_, ?_, ?_, ?_, ?_, ?_, trivial⟩
                · intro _ ρ w9 hB hs
                  have hBB : Below wQ.heap.size wQ w9 := ⟨hB.os, hB.tape, hB.output, hB.size, hB.block⟩
                  have h8 : ρ (.tmp 8) = .slice (some ⟨b2, o2, none⟩) L.length b1 := (hs _ (by simp [Op.operands, Call.operands])).2 (fun t ht => by cases ht; kernel_rfl)
                  exact ByOps.runs_value (by first | rfl | go_simp) (Below.refl _ _) h8
                · intro _ ρ w9 hB hs
                  have hBB : Below wQ.heap.size wQ w9 := ⟨hB.os, hB.tape, hB.output, hB.size, hB.block⟩
                  have h10 : ρ (.tmp 10) = .int .i64 (q : Int) := (hs _ (by simp [Op.operands, Call.operands])).2 (fun t ht => by cases ht; kernel_rfl)
                  exact ByOps.runs_value (by first | rfl | go_simp) (Below.refl _ _) h10
                · intro _ ρ w9 hB hs
                  have hBB : Below wQ.heap.size wQ w9 := ⟨hB.os, hB.tape, hB.output, hB.size, hB.block⟩
                  have h61 : ρ (.tmp 61) = .slice (some ⟨b2, o2, none⟩) L.length b1 := (hs (.tmp 61) (by simp [Op.operands, Call.operands])).1 61 rfl 0 _ rfl rfl
                  have h62 : ρ (.tmp 62) = .int .i64 (q : Int) := (hs (.tmp 62) (by simp [Op.operands, Call.operands])).1 62 rfl 1 _ rfl rfl
                  exact ByOps.runs_value (v := .pointer (some ⟨b2, o2 + q * 10, none⟩)) (by first | rfl | go_simp) (Below.refl _ _) rfl
                · intro _ ρ w9 hB hs
                  have hBB : Below wQ.heap.size wQ w9 := ⟨hB.os, hB.tape, hB.output, hB.size, hB.block⟩
                  have h63 : ρ (.tmp 63) = .pointer (some ⟨b2, o2 + q * 10, none⟩) := (hs (.tmp 63) (by simp [Op.operands, Call.operands])).1 63 rfl 2 _ rfl rfl
                  obtain ⟨⟨d0, d1, d2, d3, d4⟩, d5, d6, d7, d8, d9⟩ := HCz.out w9 hBB
                  exact ByOps.runs_value (v := .agg #[.int .i8 z.f, .int .u16 z.g0, .int .u16 z.g1, .int .u16 z.g2, .int .u16 z.g3, .int .u16 z.g4, .int .u16 z.g5, .int .u16 z.g6, .int .u16 z.g7, .int .i64 z.p]) (by first | rfl | go_simp) (Below.refl _ _) rfl
                · intro _ ρ w9 hB hs
                  have hBB : Below wQ.heap.size wQ w9 := ⟨hB.os, hB.tape, hB.output, hB.size, hB.block⟩
                  have h5 : ρ (.tmp 5) = .pointer (some ⟨bx, 0, none⟩) := (hs _ (by simp [Op.operands, Call.operands])).2 (fun t ht => by cases ht; kernel_rfl)
                  obtain ⟨⟨e0, e1, e2, e3, e4, e5, e6, e7, e8, e9⟩, _⟩ := box_10 ((hBB.block _ (lt_of_block Hx.out)).trans Hx.out)
                  exact ByOps.runs_value (v := .agg #[.int .i8 x.f, .int .u16 x.g0, .int .u16 x.g1, .int .u16 x.g2, .int .u16 x.g3, .int .u16 x.g4, .int .u16 x.g5, .int .u16 x.g6, .int .u16 x.g7, .int .i64 x.p]) (by first | rfl | go_simp) (Below.refl _ _) rfl
                · intro _ ρ w9 hB hs
                  have hBB : Below wQ.heap.size wQ w9 := ⟨hB.os, hB.tape, hB.output, hB.size, hB.block⟩
                  have h64 : ρ (.tmp 64) = .agg #[.int .i8 z.f, .int .u16 z.g0, .int .u16 z.g1, .int .u16 z.g2, .int .u16 z.g3, .int .u16 z.g4, .int .u16 z.g5, .int .u16 z.g6, .int .u16 z.g7, .int .i64 z.p] := (hs (.tmp 64) (by simp [Op.operands, Call.operands])).1 64 rfl 3 _ rfl rfl
                  have h65 : ρ (.tmp 65) = .agg #[.int .i8 x.f, .int .u16 x.g0, .int .u16 x.g1, .int .u16 x.g2, .int .u16 x.g3, .int .u16 x.g4, .int .u16 x.g5, .int .u16 x.g6, .int .u16 x.g7, .int .i64 x.p] := (hs (.tmp 65) (by simp [Op.operands, Call.operands])).1 65 rfl 4 _ rfl rfl
                  exact ByOps.runs_value (v := .bool true) (by first | rfl | go_simp) (Below.refl _ _) rfl
                · intro _ ρ w9 hB hs
                  have hBB : Below wQ.heap.size wQ w9 := ⟨hB.os, hB.tape, hB.output, hB.size, hB.block⟩
                  have h66 : ρ (.tmp 66) = .bool true := (hs (.tmp 66) (by simp [Op.operands, Call.operands])).1 66 rfl 5 _ rfl rfl
                  exact ByOps.runs_value (by first | rfl | go_simp) (Below.refl _ _) h66
                · intro hs0; cases hs0
                · intro hs0; cases hs0
                · intro hs0; cases hs0
                · intro hs0; cases hs0
                · intro hs0; cases hs0
                · intro hs0; cases hs0
                · intro hs0; cases hs0
                · intro _ ρ w9 hB hs
                  have hBB : Below wQ.heap.size wQ w9 := ⟨hB.os, hB.tape, hB.output, hB.size, hB.block⟩
                  have h67 : ρ (.tmp 67) = .bool true := (hs (.tmp 67) (by simp [Op.operands, Call.operands])).1 67 rfl 6 _ rfl rfl
                  have hk : ρ (.const (.bool true)) = .bool true := (hs _ (by simp [Op.operands, Call.operands])).2 (fun t ht => by cases ht)
                  exact ByOps.runs_value (v := .bool true) (by first | rfl | go_simp) (Below.refl _ _) rfl
              · refine ⟨?_, ?_, ?_, ?_, ?_, ?_, ?_, ?_, ?_, ?_, ?_, ?_, ?_, ?_, ?_, trivial⟩
                all_goals first | (intro hs0; cases hs0; done) | (intro _; exact ⟨by simp, fun _ => rfl⟩)
              · refine ⟨?_, ?_, ?_, ?_, ?_, ?_, ?_, ?_, ?_, ?_, ?_, ?_, ?_, ?_, ?_, trivial⟩
                all_goals first | (intro g b h; cases h; done) | (intro g b h; cases h; intro v w h; exact ⟨fun h0 => (by first | exact h | cases h0), fun h0 => (by first | cases h0; done | exact .inl h | exact .inr h)⟩)
              · intro a9 wb hd9 hs9 ho9 hn9 hB9
                obtain ⟨v0, e0, p0⟩ := hn9 0 _ 61 rfl rfl
                obtain ⟨v1, e1, p1⟩ := hn9 1 _ 62 rfl rfl
                obtain ⟨v2, e2, p2⟩ := hn9 2 _ 63 rfl rfl
                obtain ⟨v3, e3, p3⟩ := hn9 3 _ 64 rfl rfl
                obtain ⟨v4, e4, p4⟩ := hn9 4 _ 65 rfl rfl
                obtain ⟨v5, e5, p5⟩ := hn9 5 _ 66 rfl rfl
                obtain ⟨v6, e6, p6⟩ := hn9 6 _ 67 rfl rfl
                obtain ⟨v7, e7, p7⟩ := hn9 7 _ 68 rfl rfl
                obtain ⟨v8, e8, p8⟩ := hn9 8 _ 69 rfl rfl
                obtain ⟨v9, e9, p9⟩ := hn9 9 _ 70 rfl rfl
                obtain ⟨v10, e10, p10⟩ := hn9 10 _ 71 rfl rfl
                obtain ⟨v11, e11, p11⟩ := hn9 11 _ 72 rfl rfl
                obtain ⟨v12, e12, p12⟩ := hn9 12 _ 73 rfl rfl
                obtain ⟨v13, e13, p13⟩ := hn9 13 _ 74 rfl rfl
                obtain ⟨v14, e14, p14⟩ := hn9 14 _ 75 rfl rfl
                obtain rfl : v0 = .slice (some ⟨b2, o2, none⟩) L.length b1 := p0
                obtain rfl : v1 = .int .i64 (q : Int) := p1
                obtain rfl : v2 = .pointer (some ⟨b2, o2 + q * 10, none⟩) := p2
                obtain rfl : v3 = .agg #[.int .i8 z.f, .int .u16 z.g0, .int .u16 z.g1, .int .u16 z.g2, .int .u16 z.g3, .int .u16 z.g4, .int .u16 z.g5, .int .u16 z.g6, .int .u16 z.g7, .int .i64 z.p] := p3
                obtain rfl : v4 = .agg #[.int .i8 x.f, .int .u16 x.g0, .int .u16 x.g1, .int .u16 x.g2, .int .u16 x.g3, .int .u16 x.g4, .int .u16 x.g5, .int .u16 x.g6, .int .u16 x.g7, .int .i64 x.p] := p4
                obtain rfl : v5 = .bool true := p5
                obtain rfl : v6 = .bool true := p6
                obtain rfl : v7 = undef := p7
                obtain rfl : v8 = undef := p8
                obtain rfl : v9 = undef := p9
                obtain rfl : v10 = undef := p10
                obtain rfl : v11 = undef := p11
                obtain rfl : v12 = undef := p12
                obtain rfl : v13 = undef := p13
                obtain rfl : v14 = .bool true := p14
                have ha := ByOps.act_eq [(61, .slice (some ⟨b2, o2, none⟩) L.length b1), (62, .int .i64 (q : Int)), (63, .pointer (some ⟨b2, o2 + q * 10, none⟩)), (64, .agg #[.int .i8 z.f, .int .u16 z.g0, .int .u16 z.g1, .int .u16 z.g2, .int .u16 z.g3, .int .u16 z.g4, .int .u16 z.g5, .int .u16 z.g6, .int .u16 z.g7, .int .i64 z.p]), (65, .agg #[.int .i8 x.f, .int .u16 x.g0, .int .u16 x.g1, .int .u16 x.g2, .int .u16 x.g3, .int .u16 x.g4, .int .u16 x.g5, .int .u16 x.g6, .int .u16 x.g7, .int .i64 x.p]), (66, .bool true), (67, .bool true), (68, undef), (69, undef), (70, undef), (71, undef), (72, undef), (73, undef), (74, undef), (75, .bool true)] a9 _ hd9 hs9 (fun t ht => ho9 t (ByOps.outer_of (ts := [61, 62, 63, 64, 65, 66, 67, 68, 69, 70, 71, 72, 73, 74, 75]) rfl ht)) (by intro p hp; simp only [List.mem_cons, List.not_mem_nil, or_false] at hp; rcases hp with rfl | rfl | rfl | rfl | rfl | rfl | rfl | rfl | rfl | rfl | rfl | rfl | rfl | rfl | rfl <;> assumption)
                rw [ha]
                clear ha hn9 ho9 hs9 hd9 e0 e1 e2 e3 e4 e5 e6 e7 e8 e9 e10 e11 e12 e13 e14
                simp only [List.foldl, Act.put, List.setIfInBounds_toArray, List.set_cons_zero, List.set_cons_succ]
                have hb9 : Below wQ.heap.size wQ wb := ⟨hB9.os, hB9.tape, hB9.output, hB9.size, hB9.block⟩
                clear hB9
                have hb := hb9
                clear hb9 hE hgd
                replace HQ := Lib.hid (HQ.out.trans (hb.mono HQ.out.size))
                replace Hl := Lib.hid (Hl.out.below hb)
                replace Hm := Lib.hid (Hm.out.below hb)
                replace HA := Lib.hid (HA.out.below hb)
                replace HP := Lib.hid (HP.out.below hb)
                replace Hx := Lib.hid ((hb.block _ (lt_of_block Hx.out)).trans Hx.out)
                replace HB := Lib.hid (HB.out.trans (hb.mono HB.out.size))
                clear hb
                clear HCz
                go_wp2_with fail
                go_roundw
                case rel => exact ⟨q + 1, rfl, by go_num, by omega, Lib.hid HQ.out⟩
                case measure => simp [intOf]; omega
            · rw [decide_eq_false hzx] at hE
              by_cases hzm : z ∈ m
              · have hge : decide ((0 : Int) ≤ pb) = true := by have h := place_neg (l := m) (a := z); rw [← hpb.out] at h; simp; by_cases hh : pb < 0; exact absurd hzm (h.1 hh); omega
                clear hzx hzm
                go_upto_region 15 with fail
                refine ByOps.region_by_sk (by kernel_rfl) (ByOps.facts [.val (.slice (some ⟨b2, o2, none⟩) L.length b1), .val (.int .i64 (q : Int)), .val (.pointer (some ⟨b2, o2 + q * 10, none⟩)), .val (.agg #[.int .i8 z.f, .int .u16 z.g0, .int .u16 z.g1, .int .u16 z.g2, .int .u16 z.g3, .int .u16 z.g4, .int .u16 z.g5, .int .u16 z.g6, .int .u16 z.g7, .int .i64 z.p]), .val (.agg #[.int .i8 x.f, .int .u16 x.g0, .int .u16 x.g1, .int .u16 x.g2, .int .u16 x.g3, .int .u16 x.g4, .int .u16 x.g5, .int .u16 x.g6, .int .u16 x.g7, .int .i64 x.p]), .val (.bool false), .val (.bool false), .val (.slice s1 m.length c1), .val (.slice (some ⟨b2, o2, none⟩) L.length b1), .val (.int .i64 (q : Int)), .val (.pointer (some ⟨b2, o2 + q * 10, none⟩)), .val (.agg #[.int .i8 z.f, .int .u16 z.g0, .int .u16 z.g1, .int .u16 z.g2, .int .u16 z.g3, .int .u16 z.g4, .int .u16 z.g5, .int .u16 z.g6, .int .u16 z.g7, .int .i64 z.p]), .val (.int .i64 pb), .val (.bool true), .val (.bool true)]) (ByOps.facts_up _) (by kernel_rfl) (fun _ => false) (ByOps.all_ops ?_) (ByOps.all_ops ?_) (ByOps.all_ops ?_) ?_
                · refine ⟨?_, ?_, ?_, ?_, ?_, ?_, ?_, ?_, ?_, ?_, ?_, ?_, ?_, ?_, ?_, trivial⟩
                  · intro _ ρ w9 hB hs
                    have hBB : Below wQ.heap.size wQ w9 := ⟨hB.os, hB.tape, hB.output, hB.size, hB.block⟩
                    have h8 : ρ (.tmp 8) = .slice (some ⟨b2, o2, none⟩) L.length b1 := (hs _ (by simp [Op.operands, Call.operands])).2 (fun t ht => by cases ht; kernel_rfl)
                    exact ByOps.runs_value (by first | rfl | go_simp) (Below.refl _ _) h8
                  · intro _ ρ w9 hB hs
                    have hBB : Below wQ.heap.size wQ w9 := ⟨hB.os, hB.tape, hB.output, hB.size, hB.block⟩
                    have h10 : ρ (.tmp 10) = .int .i64 (q : Int) := (hs _ (by simp [Op.operands, Call.operands])).2 (fun t ht => by cases ht; kernel_rfl)
                    exact ByOps.runs_value (by first | rfl | go_simp) (Below.refl _ _) h10
                  · intro _ ρ w9 hB hs
                    have hBB : Below wQ.heap.size wQ w9 := ⟨hB.os, hB.tape, hB.output, hB.size, hB.block⟩
                    have h61 : ρ (.tmp 61) = .slice (some ⟨b2, o2, none⟩) L.length b1 := (hs (.tmp 61) (by simp [Op.operands, Call.operands])).1 61 rfl 0 _ rfl rfl
                    have h62 : ρ (.tmp 62) = .int .i64 (q : Int) := (hs (.tmp 62) (by simp [Op.operands, Call.operands])).1 62 rfl 1 _ rfl rfl
                    exact ByOps.runs_value (v := .pointer (some ⟨b2, o2 + q * 10, none⟩)) (by first | rfl | go_simp) (Below.refl _ _) rfl
                  · intro _ ρ w9 hB hs
                    have hBB : Below wQ.heap.size wQ w9 := ⟨hB.os, hB.tape, hB.output, hB.size, hB.block⟩
                    have h63 : ρ (.tmp 63) = .pointer (some ⟨b2, o2 + q * 10, none⟩) := (hs (.tmp 63) (by simp [Op.operands, Call.operands])).1 63 rfl 2 _ rfl rfl
                    obtain ⟨⟨d0, d1, d2, d3, d4⟩, d5, d6, d7, d8, d9⟩ := HCz.out w9 hBB
                    exact ByOps.runs_value (v := .agg #[.int .i8 z.f, .int .u16 z.g0, .int .u16 z.g1, .int .u16 z.g2, .int .u16 z.g3, .int .u16 z.g4, .int .u16 z.g5, .int .u16 z.g6, .int .u16 z.g7, .int .i64 z.p]) (by first | rfl | go_simp) (Below.refl _ _) rfl
                  · intro _ ρ w9 hB hs
                    have hBB : Below wQ.heap.size wQ w9 := ⟨hB.os, hB.tape, hB.output, hB.size, hB.block⟩
                    have h5 : ρ (.tmp 5) = .pointer (some ⟨bx, 0, none⟩) := (hs _ (by simp [Op.operands, Call.operands])).2 (fun t ht => by cases ht; kernel_rfl)
                    obtain ⟨⟨e0, e1, e2, e3, e4, e5, e6, e7, e8, e9⟩, _⟩ := box_10 ((hBB.block _ (lt_of_block Hx.out)).trans Hx.out)
                    exact ByOps.runs_value (v := .agg #[.int .i8 x.f, .int .u16 x.g0, .int .u16 x.g1, .int .u16 x.g2, .int .u16 x.g3, .int .u16 x.g4, .int .u16 x.g5, .int .u16 x.g6, .int .u16 x.g7, .int .i64 x.p]) (by first | rfl | go_simp) (Below.refl _ _) rfl
                  · intro _ ρ w9 hB hs
                    have hBB : Below wQ.heap.size wQ w9 := ⟨hB.os, hB.tape, hB.output, hB.size, hB.block⟩
                    have h64 : ρ (.tmp 64) = .agg #[.int .i8 z.f, .int .u16 z.g0, .int .u16 z.g1, .int .u16 z.g2, .int .u16 z.g3, .int .u16 z.g4, .int .u16 z.g5, .int .u16 z.g6, .int .u16 z.g7, .int .i64 z.p] := (hs (.tmp 64) (by simp [Op.operands, Call.operands])).1 64 rfl 3 _ rfl rfl
                    have h65 : ρ (.tmp 65) = .agg #[.int .i8 x.f, .int .u16 x.g0, .int .u16 x.g1, .int .u16 x.g2, .int .u16 x.g3, .int .u16 x.g4, .int .u16 x.g5, .int .u16 x.g6, .int .u16 x.g7, .int .i64 x.p] := (hs (.tmp 65) (by simp [Op.operands, Call.operands])).1 65 rfl 4 _ rfl rfl
                    exact ByOps.runs_value (v := .bool false) (by first | rfl | go_simp) (Below.refl _ _) rfl
                  · intro _ ρ w9 hB hs
                    have hBB : Below wQ.heap.size wQ w9 := ⟨hB.os, hB.tape, hB.output, hB.size, hB.block⟩
                    have h66 : ρ (.tmp 66) = .bool false := (hs (.tmp 66) (by simp [Op.operands, Call.operands])).1 66 rfl 5 _ rfl rfl
                    exact ByOps.runs_value (by first | rfl | go_simp) (Below.refl _ _) h66
                  · intro _ ρ w9 hB hs
                    have hBB : Below wQ.heap.size wQ w9 := ⟨hB.os, hB.tape, hB.output, hB.size, hB.block⟩
                    have h1 : ρ (.tmp 1) = .slice s1 m.length c1 := (hs _ (by simp [Op.operands, Call.operands])).2 (fun t ht => by cases ht; kernel_rfl)
                    exact ByOps.runs_value (by first | rfl | go_simp) (Below.refl _ _) h1
                  · intro _ ρ w9 hB hs
                    have hBB : Below wQ.heap.size wQ w9 := ⟨hB.os, hB.tape, hB.output, hB.size, hB.block⟩
                    have h8 : ρ (.tmp 8) = .slice (some ⟨b2, o2, none⟩) L.length b1 := (hs _ (by simp [Op.operands, Call.operands])).2 (fun t ht => by cases ht; kernel_rfl)
                    exact ByOps.runs_value (by first | rfl | go_simp) (Below.refl _ _) h8
                  · intro _ ρ w9 hB hs
                    have hBB : Below wQ.heap.size wQ w9 := ⟨hB.os, hB.tape, hB.output, hB.size, hB.block⟩
                    have h10 : ρ (.tmp 10) = .int .i64 (q : Int) := (hs _ (by simp [Op.operands, Call.operands])).2 (fun t ht => by cases ht; kernel_rfl)
                    exact ByOps.runs_value (by first | rfl | go_simp) (Below.refl _ _) h10
                  · intro _ ρ w9 hB hs
                    have hBB : Below wQ.heap.size wQ w9 := ⟨hB.os, hB.tape, hB.output, hB.size, hB.block⟩
                    have h69 : ρ (.tmp 69) = .slice (some ⟨b2, o2, none⟩) L.length b1 := (hs (.tmp 69) (by simp [Op.operands, Call.operands])).1 69 rfl 8 _ rfl rfl
                    have h70 : ρ (.tmp 70) = .int .i64 (q : Int) := (hs (.tmp 70) (by simp [Op.operands, Call.operands])).1 70 rfl 9 _ rfl rfl
                    exact ByOps.runs_value (v := .pointer (some ⟨b2, o2 + q * 10, none⟩)) (by first | rfl | go_simp) (Below.refl _ _) rfl
                  · intro _ ρ w9 hB hs
                    have hBB : Below wQ.heap.size wQ w9 := ⟨hB.os, hB.tape, hB.output, hB.size, hB.block⟩
                    have h71 : ρ (.tmp 71) = .pointer (some ⟨b2, o2 + q * 10, none⟩) := (hs (.tmp 71) (by simp [Op.operands, Call.operands])).1 71 rfl 10 _ rfl rfl
                    obtain ⟨⟨d0, d1, d2, d3, d4⟩, d5, d6, d7, d8, d9⟩ := HCz.out w9 hBB
                    exact ByOps.runs_value (v := .agg #[.int .i8 z.f, .int .u16 z.g0, .int .u16 z.g1, .int .u16 z.g2, .int .u16 z.g3, .int .u16 z.g4, .int .u16 z.g5, .int .u16 z.g6, .int .u16 z.g7, .int .i64 z.p]) (by first | rfl | go_simp) (Below.refl _ _) rfl
                  · intro _ ρ w9 hB hs
                    have hBB : Below wQ.heap.size wQ w9 := ⟨hB.os, hB.tape, hB.output, hB.size, hB.block⟩
                    have h68 : ρ (.tmp 68) = .slice s1 m.length c1 := (hs (.tmp 68) (by simp [Op.operands, Call.operands])).1 68 rfl 7 _ rfl rfl
                    have h72 : ρ (.tmp 72) = .agg #[.int .i8 z.f, .int .u16 z.g0, .int .u16 z.g1, .int .u16 z.g2, .int .u16 z.g3, .int .u16 z.g4, .int .u16 z.g5, .int .u16 z.g6, .int .u16 z.g7, .int .i64 z.p] := (hs (.tmp 72) (by simp [Op.operands, Call.operands])).1 72 rfl 11 _ rfl rfl
                    have hfn : ρ (.func 21) = .func (.func 21) #[] #[] := (hs _ (by simp [Op.operands, Call.operands])).2 (fun t ht => by cases ht)
                    refine ByOps.runs_enter (f := 21) (args := #[.slice s1 m.length c1, .agg #[.int .i8 z.f, .int .u16 z.g0, .int .u16 z.g1, .int .u16 z.g2, .int .u16 z.g3, .int .u16 z.g4, .int .u16 z.g5, .int .u16 z.g6, .int .u16 z.g7, .int .i64 z.p]]) (by go_simp) ?_
                    exact (rplace_any m z s1 c1 pb w9 hpb.out (Hm.out.below hBB)).mono fun e w2 ⟨he, hb⟩ => ⟨_, he, hb, rfl⟩
                  · intro _ ρ w9 hB hs
                    have hBB : Below wQ.heap.size wQ w9 := ⟨hB.os, hB.tape, hB.output, hB.size, hB.block⟩
                    have h73 : ρ (.tmp 73) = .int .i64 pb := (hs (.tmp 73) (by simp [Op.operands, Call.operands])).1 73 rfl 12 _ rfl rfl
                    have hk : ρ (.const (.int .i64 0)) = .int .i64 0 := (hs _ (by simp [Op.operands, Call.operands])).2 (fun t ht => by cases ht)
                    exact ByOps.runs_value (v := .bool true) (by first | rfl | go_simp) (Below.refl _ _) rfl
                  · intro _ ρ w9 hB hs
                    have hBB : Below wQ.heap.size wQ w9 := ⟨hB.os, hB.tape, hB.output, hB.size, hB.block⟩
                    have h67 : ρ (.tmp 67) = .bool false := (hs (.tmp 67) (by simp [Op.operands, Call.operands])).1 67 rfl 6 _ rfl rfl
                    have h74 : ρ (.tmp 74) = .bool true := (hs (.tmp 74) (by simp [Op.operands, Call.operands])).1 74 rfl 13 _ rfl rfl
                    exact ByOps.runs_value (v := .bool true) (by first | rfl | go_simp) (Below.refl _ _) rfl
                · refine ⟨?_, ?_, ?_, ?_, ?_, ?_, ?_, ?_, ?_, ?_, ?_, ?_, ?_, ?_, ?_, trivial⟩
                  all_goals first | (intro hs0; cases hs0; done) | (intro _; exact ⟨by simp, fun _ => rfl⟩)
                · refine ⟨?_, ?_, ?_, ?_, ?_, ?_, ?_, ?_, ?_, ?_, ?_, ?_, ?_, ?_, ?_, trivial⟩
                  all_goals first | (intro g b h; cases h; done) | (intro g b h; cases h; intro v w h; exact ⟨fun h0 => (by first | exact h | cases h0), fun h0 => (by first | cases h0; done | exact .inl h | exact .inr h)⟩)
                · intro a9 wb hd9 hs9 ho9 hn9 hB9
                  obtain ⟨v0, e0, p0⟩ := hn9 0 _ 61 rfl rfl
                  obtain ⟨v1, e1, p1⟩ := hn9 1 _ 62 rfl rfl
                  obtain ⟨v2, e2, p2⟩ := hn9 2 _ 63 rfl rfl
                  obtain ⟨v3, e3, p3⟩ := hn9 3 _ 64 rfl rfl
                  obtain ⟨v4, e4, p4⟩ := hn9 4 _ 65 rfl rfl
                  obtain ⟨v5, e5, p5⟩ := hn9 5 _ 66 rfl rfl
                  obtain ⟨v6, e6, p6⟩ := hn9 6 _ 67 rfl rfl
                  obtain ⟨v7, e7, p7⟩ := hn9 7 _ 68 rfl rfl
                  obtain ⟨v8, e8, p8⟩ := hn9 8 _ 69 rfl rfl
                  obtain ⟨v9, e9, p9⟩ := hn9 9 _ 70 rfl rfl
                  obtain ⟨v10, e10, p10⟩ := hn9 10 _ 71 rfl rfl
                  obtain ⟨v11, e11, p11⟩ := hn9 11 _ 72 rfl rfl
                  obtain ⟨v12, e12, p12⟩ := hn9 12 _ 73 rfl rfl
                  obtain ⟨v13, e13, p13⟩ := hn9 13 _ 74 rfl rfl
                  obtain ⟨v14, e14, p14⟩ := hn9 14 _ 75 rfl rfl
                  obtain rfl : v0 = .slice (some ⟨b2, o2, none⟩) L.length b1 := p0
                  obtain rfl : v1 = .int .i64 (q : Int) := p1
                  obtain rfl : v2 = .pointer (some ⟨b2, o2 + q * 10, none⟩) := p2
                  obtain rfl : v3 = .agg #[.int .i8 z.f, .int .u16 z.g0, .int .u16 z.g1, .int .u16 z.g2, .int .u16 z.g3, .int .u16 z.g4, .int .u16 z.g5, .int .u16 z.g6, .int .u16 z.g7, .int .i64 z.p] := p3
                  obtain rfl : v4 = .agg #[.int .i8 x.f, .int .u16 x.g0, .int .u16 x.g1, .int .u16 x.g2, .int .u16 x.g3, .int .u16 x.g4, .int .u16 x.g5, .int .u16 x.g6, .int .u16 x.g7, .int .i64 x.p] := p4
                  obtain rfl : v5 = .bool false := p5
                  obtain rfl : v6 = .bool false := p6
                  obtain rfl : v7 = .slice s1 m.length c1 := p7
                  obtain rfl : v8 = .slice (some ⟨b2, o2, none⟩) L.length b1 := p8
                  obtain rfl : v9 = .int .i64 (q : Int) := p9
                  obtain rfl : v10 = .pointer (some ⟨b2, o2 + q * 10, none⟩) := p10
                  obtain rfl : v11 = .agg #[.int .i8 z.f, .int .u16 z.g0, .int .u16 z.g1, .int .u16 z.g2, .int .u16 z.g3, .int .u16 z.g4, .int .u16 z.g5, .int .u16 z.g6, .int .u16 z.g7, .int .i64 z.p] := p11
                  obtain rfl : v12 = .int .i64 pb := p12
                  obtain rfl : v13 = .bool true := p13
                  obtain rfl : v14 = .bool true := p14
                  have ha := ByOps.act_eq [(61, .slice (some ⟨b2, o2, none⟩) L.length b1), (62, .int .i64 (q : Int)), (63, .pointer (some ⟨b2, o2 + q * 10, none⟩)), (64, .agg #[.int .i8 z.f, .int .u16 z.g0, .int .u16 z.g1, .int .u16 z.g2, .int .u16 z.g3, .int .u16 z.g4, .int .u16 z.g5, .int .u16 z.g6, .int .u16 z.g7, .int .i64 z.p]), (65, .agg #[.int .i8 x.f, .int .u16 x.g0, .int .u16 x.g1, .int .u16 x.g2, .int .u16 x.g3, .int .u16 x.g4, .int .u16 x.g5, .int .u16 x.g6, .int .u16 x.g7, .int .i64 x.p]), (66, .bool false), (67, .bool false), (68, .slice s1 m.length c1), (69, .slice (some ⟨b2, o2, none⟩) L.length b1), (70, .int .i64 (q : Int)), (71, .pointer (some ⟨b2, o2 + q * 10, none⟩)), (72, .agg #[.int .i8 z.f, .int .u16 z.g0, .int .u16 z.g1, .int .u16 z.g2, .int .u16 z.g3, .int .u16 z.g4, .int .u16 z.g5, .int .u16 z.g6, .int .u16 z.g7, .int .i64 z.p]), (73, .int .i64 pb), (74, .bool true), (75, .bool true)] a9 _ hd9 hs9 (fun t ht => ho9 t (ByOps.outer_of (ts := [61, 62, 63, 64, 65, 66, 67, 68, 69, 70, 71, 72, 73, 74, 75]) rfl ht)) (by intro p hp; simp only [List.mem_cons, List.not_mem_nil, or_false] at hp; rcases hp with rfl | rfl | rfl | rfl | rfl | rfl | rfl | rfl | rfl | rfl | rfl | rfl | rfl | rfl | rfl <;> assumption)
                  rw [ha]
                  clear ha hn9 ho9 hs9 hd9 e0 e1 e2 e3 e4 e5 e6 e7 e8 e9 e10 e11 e12 e13 e14
                  simp only [List.foldl, Act.put, List.setIfInBounds_toArray, List.set_cons_zero, List.set_cons_succ]
                  have hb9 : Below wQ.heap.size wQ wb := ⟨hB9.os, hB9.tape, hB9.output, hB9.size, hB9.block⟩
                  clear hB9
                  have hb := hb9
                  clear hb9 hE hgd
                  replace HQ := Lib.hid (HQ.out.trans (hb.mono HQ.out.size))
                  replace Hl := Lib.hid (Hl.out.below hb)
                  replace Hm := Lib.hid (Hm.out.below hb)
                  replace HA := Lib.hid (HA.out.below hb)
                  replace HP := Lib.hid (HP.out.below hb)
                  replace Hx := Lib.hid ((hb.block _ (lt_of_block Hx.out)).trans Hx.out)
                  replace HB := Lib.hid (HB.out.trans (hb.mono HB.out.size))
                  clear hb
                  clear HCz
                  go_wp2_with fail
                  go_roundw
                  case rel => exact ⟨q + 1, rfl, by go_num, by omega, Lib.hid HQ.out⟩
                  case measure => simp [intOf]; omega
              · have hge : decide ((0 : Int) ≤ pb) = false := by have h := place_neg (l := m) (a := z); rw [← hpb.out] at h; simp; exact h.2 hzm
                have hgt : decide ((q : Int) < pc) = false := decide_eq_false (by have := HFw.out q z hz.out hzm hzx; rw [← hpc.out] at this; omega)
                clear hzx hzm
                go_upto_region 15 with fail
                refine ByOps.region_by_sk (by kernel_rfl) (ByOps.facts [.val (.slice (some ⟨b2, o2, none⟩) L.length b1), .val (.int .i64 (q : Int)), .val (.pointer (some ⟨b2, o2 + q * 10, none⟩)), .val (.agg #[.int .i8 z.f, .int .u16 z.g0, .int .u16 z.g1, .int .u16 z.g2, .int .u16 z.g3, .int .u16 z.g4, .int .u16 z.g5, .int .u16 z.g6, .int .u16 z.g7, .int .i64 z.p]), .val (.agg #[.int .i8 x.f, .int .u16 x.g0, .int .u16 x.g1, .int .u16 x.g2, .int .u16 x.g3, .int .u16 x.g4, .int .u16 x.g5, .int .u16 x.g6, .int .u16 x.g7, .int .i64 x.p]), .val (.bool false), .val (.bool false), .val (.slice s1 m.length c1), .val (.slice (some ⟨b2, o2, none⟩) L.length b1), .val (.int .i64 (q : Int)), .val (.pointer (some ⟨b2, o2 + q * 10, none⟩)), .val (.agg #[.int .i8 z.f, .int .u16 z.g0, .int .u16 z.g1, .int .u16 z.g2, .int .u16 z.g3, .int .u16 z.g4, .int .u16 z.g5, .int .u16 z.g6, .int .u16 z.g7, .int .i64 z.p]), .val (.int .i64 pb), .val (.bool false), .val (.bool false)]) (ByOps.facts_up _) (by kernel_rfl) (fun _ => false) (ByOps.all_ops ?_) (ByOps.all_ops ?_) (ByOps.all_ops ?_) ?_
                · refine ⟨?_, ?_, ?_, ?_, ?_, ?_, ?_, ?_, ?_, ?_, ?_, ?_, ?_, ?_, ?_, trivial⟩
                  · intro _ ρ w9 hB hs
                    have hBB : Below wQ.heap.size wQ w9 := ⟨hB.os, hB.tape, hB.output, hB.size, hB.block⟩
                    have h8 : ρ (.tmp 8) = .slice (some ⟨b2, o2, none⟩) L.length b1 := (hs _ (by simp [Op.operands, Call.operands])).2 (fun t ht => by cases ht; kernel_rfl)
                    exact ByOps.runs_value (by first | rfl | go_simp) (Below.refl _ _) h8
                  · intro _ ρ w9 hB hs
                    have hBB : Below wQ.heap.size wQ w9 := ⟨hB.os, hB.tape, hB.output, hB.size, hB.block⟩
                    have h10 : ρ (.tmp 10) = .int .i64 (q : Int) := (hs _ (by simp [Op.operands, Call.operands])).2 (fun t ht => by cases ht; kernel_rfl)
                    exact ByOps.runs_value (by first | rfl | go_simp) (Below.refl _ _) h10
                  · intro _ ρ w9 hB hs
                    have hBB : Below wQ.heap.size wQ w9 := ⟨hB.os, hB.tape, hB.output, hB.size, hB.block⟩
                    have h61 : ρ (.tmp 61) = .slice (some ⟨b2, o2, none⟩) L.length b1 := (hs (.tmp 61) (by simp [Op.operands, Call.operands])).1 61 rfl 0 _ rfl rfl
                    have h62 : ρ (.tmp 62) = .int .i64 (q : Int) := (hs (.tmp 62) (by simp [Op.operands, Call.operands])).1 62 rfl 1 _ rfl rfl
                    exact ByOps.runs_value (v := .pointer (some ⟨b2, o2 + q * 10, none⟩)) (by first | rfl | go_simp) (Below.refl _ _) rfl
                  · intro _ ρ w9 hB hs
                    have hBB : Below wQ.heap.size wQ w9 := ⟨hB.os, hB.tape, hB.output, hB.size, hB.block⟩
                    have h63 : ρ (.tmp 63) = .pointer (some ⟨b2, o2 + q * 10, none⟩) := (hs (.tmp 63) (by simp [Op.operands, Call.operands])).1 63 rfl 2 _ rfl rfl
                    obtain ⟨⟨d0, d1, d2, d3, d4⟩, d5, d6, d7, d8, d9⟩ := HCz.out w9 hBB
                    exact ByOps.runs_value (v := .agg #[.int .i8 z.f, .int .u16 z.g0, .int .u16 z.g1, .int .u16 z.g2, .int .u16 z.g3, .int .u16 z.g4, .int .u16 z.g5, .int .u16 z.g6, .int .u16 z.g7, .int .i64 z.p]) (by first | rfl | go_simp) (Below.refl _ _) rfl
                  · intro _ ρ w9 hB hs
                    have hBB : Below wQ.heap.size wQ w9 := ⟨hB.os, hB.tape, hB.output, hB.size, hB.block⟩
                    have h5 : ρ (.tmp 5) = .pointer (some ⟨bx, 0, none⟩) := (hs _ (by simp [Op.operands, Call.operands])).2 (fun t ht => by cases ht; kernel_rfl)
                    obtain ⟨⟨e0, e1, e2, e3, e4, e5, e6, e7, e8, e9⟩, _⟩ := box_10 ((hBB.block _ (lt_of_block Hx.out)).trans Hx.out)
                    exact ByOps.runs_value (v := .agg #[.int .i8 x.f, .int .u16 x.g0, .int .u16 x.g1, .int .u16 x.g2, .int .u16 x.g3, .int .u16 x.g4, .int .u16 x.g5, .int .u16 x.g6, .int .u16 x.g7, .int .i64 x.p]) (by first | rfl | go_simp) (Below.refl _ _) rfl
                  · intro _ ρ w9 hB hs
                    have hBB : Below wQ.heap.size wQ w9 := ⟨hB.os, hB.tape, hB.output, hB.size, hB.block⟩
                    have h64 : ρ (.tmp 64) = .agg #[.int .i8 z.f, .int .u16 z.g0, .int .u16 z.g1, .int .u16 z.g2, .int .u16 z.g3, .int .u16 z.g4, .int .u16 z.g5, .int .u16 z.g6, .int .u16 z.g7, .int .i64 z.p] := (hs (.tmp 64) (by simp [Op.operands, Call.operands])).1 64 rfl 3 _ rfl rfl
                    have h65 : ρ (.tmp 65) = .agg #[.int .i8 x.f, .int .u16 x.g0, .int .u16 x.g1, .int .u16 x.g2, .int .u16 x.g3, .int .u16 x.g4, .int .u16 x.g5, .int .u16 x.g6, .int .u16 x.g7, .int .i64 x.p] := (hs (.tmp 65) (by simp [Op.operands, Call.operands])).1 65 rfl 4 _ rfl rfl
                    exact ByOps.runs_value (v := .bool false) (by first | rfl | go_simp) (Below.refl _ _) rfl
                  · intro _ ρ w9 hB hs
                    have hBB : Below wQ.heap.size wQ w9 := ⟨hB.os, hB.tape, hB.output, hB.size, hB.block⟩
                    have h66 : ρ (.tmp 66) = .bool false := (hs (.tmp 66) (by simp [Op.operands, Call.operands])).1 66 rfl 5 _ rfl rfl
                    exact ByOps.runs_value (by first | rfl | go_simp) (Below.refl _ _) h66
                  · intro _ ρ w9 hB hs
                    have hBB : Below wQ.heap.size wQ w9 := ⟨hB.os, hB.tape, hB.output, hB.size, hB.block⟩
                    have h1 : ρ (.tmp 1) = .slice s1 m.length c1 := (hs _ (by simp [Op.operands, Call.operands])).2 (fun t ht => by cases ht; kernel_rfl)
                    exact ByOps.runs_value (by first | rfl | go_simp) (Below.refl _ _) h1
                  · intro _ ρ w9 hB hs
                    have hBB : Below wQ.heap.size wQ w9 := ⟨hB.os, hB.tape, hB.output, hB.size, hB.block⟩
                    have h8 : ρ (.tmp 8) = .slice (some ⟨b2, o2, none⟩) L.length b1 := (hs _ (by simp [Op.operands, Call.operands])).2 (fun t ht => by cases ht; kernel_rfl)
                    exact ByOps.runs_value (by first | rfl | go_simp) (Below.refl _ _) h8
                  · intro _ ρ w9 hB hs
                    have hBB : Below wQ.heap.size wQ w9 := ⟨hB.os, hB.tape, hB.output, hB.size, hB.block⟩
                    have h10 : ρ (.tmp 10) = .int .i64 (q : Int) := (hs _ (by simp [Op.operands, Call.operands])).2 (fun t ht => by cases ht; kernel_rfl)
                    exact ByOps.runs_value (by first | rfl | go_simp) (Below.refl _ _) h10
                  · intro _ ρ w9 hB hs
                    have hBB : Below wQ.heap.size wQ w9 := ⟨hB.os, hB.tape, hB.output, hB.size, hB.block⟩
                    have h69 : ρ (.tmp 69) = .slice (some ⟨b2, o2, none⟩) L.length b1 := (hs (.tmp 69) (by simp [Op.operands, Call.operands])).1 69 rfl 8 _ rfl rfl
                    have h70 : ρ (.tmp 70) = .int .i64 (q : Int) := (hs (.tmp 70) (by simp [Op.operands, Call.operands])).1 70 rfl 9 _ rfl rfl
                    exact ByOps.runs_value (v := .pointer (some ⟨b2, o2 + q * 10, none⟩)) (by first | rfl | go_simp) (Below.refl _ _) rfl
                  · intro _ ρ w9 hB hs
                    have hBB : Below wQ.heap.size wQ w9 := ⟨hB.os, hB.tape, hB.output, hB.size, hB.block⟩
                    have h71 : ρ (.tmp 71) = .pointer (some ⟨b2, o2 + q * 10, none⟩) := (hs (.tmp 71) (by simp [Op.operands, Call.operands])).1 71 rfl 10 _ rfl rfl
                    obtain ⟨⟨d0, d1, d2, d3, d4⟩, d5, d6, d7, d8, d9⟩ := HCz.out w9 hBB
                    exact ByOps.runs_value (v := .agg #[.int .i8 z.f, .int .u16 z.g0, .int .u16 z.g1, .int .u16 z.g2, .int .u16 z.g3, .int .u16 z.g4, .int .u16 z.g5, .int .u16 z.g6, .int .u16 z.g7, .int .i64 z.p]) (by first | rfl | go_simp) (Below.refl _ _) rfl
                  · intro _ ρ w9 hB hs
                    have hBB : Below wQ.heap.size wQ w9 := ⟨hB.os, hB.tape, hB.output, hB.size, hB.block⟩
                    have h68 : ρ (.tmp 68) = .slice s1 m.length c1 := (hs (.tmp 68) (by simp [Op.operands, Call.operands])).1 68 rfl 7 _ rfl rfl
                    have h72 : ρ (.tmp 72) = .agg #[.int .i8 z.f, .int .u16 z.g0, .int .u16 z.g1, .int .u16 z.g2, .int .u16 z.g3, .int .u16 z.g4, .int .u16 z.g5, .int .u16 z.g6, .int .u16 z.g7, .int .i64 z.p] := (hs (.tmp 72) (by simp [Op.operands, Call.operands])).1 72 rfl 11 _ rfl rfl
                    have hfn : ρ (.func 21) = .func (.func 21) #[] #[] := (hs _ (by simp [Op.operands, Call.operands])).2 (fun t ht => by cases ht)
                    refine ByOps.runs_enter (f := 21) (args := #[.slice s1 m.length c1, .agg #[.int .i8 z.f, .int .u16 z.g0, .int .u16 z.g1, .int .u16 z.g2, .int .u16 z.g3, .int .u16 z.g4, .int .u16 z.g5, .int .u16 z.g6, .int .u16 z.g7, .int .i64 z.p]]) (by go_simp) ?_
                    exact (rplace_any m z s1 c1 pb w9 hpb.out (Hm.out.below hBB)).mono fun e w2 ⟨he, hb⟩ => ⟨_, he, hb, rfl⟩
                  · intro _ ρ w9 hB hs
                    have hBB : Below wQ.heap.size wQ w9 := ⟨hB.os, hB.tape, hB.output, hB.size, hB.block⟩
                    have h73 : ρ (.tmp 73) = .int .i64 pb := (hs (.tmp 73) (by simp [Op.operands, Call.operands])).1 73 rfl 12 _ rfl rfl
                    have hk : ρ (.const (.int .i64 0)) = .int .i64 0 := (hs _ (by simp [Op.operands, Call.operands])).2 (fun t ht => by cases ht)
                    exact ByOps.runs_value (v := .bool false) (by first | rfl | go_simp) (Below.refl _ _) rfl
                  · intro _ ρ w9 hB hs
                    have hBB : Below wQ.heap.size wQ w9 := ⟨hB.os, hB.tape, hB.output, hB.size, hB.block⟩
                    have h67 : ρ (.tmp 67) = .bool false := (hs (.tmp 67) (by simp [Op.operands, Call.operands])).1 67 rfl 6 _ rfl rfl
                    have h74 : ρ (.tmp 74) = .bool false := (hs (.tmp 74) (by simp [Op.operands, Call.operands])).1 74 rfl 13 _ rfl rfl
                    exact ByOps.runs_value (v := .bool false) (by first | rfl | go_simp) (Below.refl _ _) rfl
                · refine ⟨?_, ?_, ?_, ?_, ?_, ?_, ?_, ?_, ?_, ?_, ?_, ?_, ?_, ?_, ?_, trivial⟩
                  all_goals first | (intro hs0; cases hs0; done) | (intro _; exact ⟨by simp, fun _ => rfl⟩)
                · refine ⟨?_, ?_, ?_, ?_, ?_, ?_, ?_, ?_, ?_, ?_, ?_, ?_, ?_, ?_, ?_, trivial⟩
                  all_goals first | (intro g b h; cases h; done) | (intro g b h; cases h; intro v w h; exact ⟨fun h0 => (by first | exact h | cases h0), fun h0 => (by first | cases h0; done | exact .inl h | exact .inr h)⟩)
                · intro a9 wb hd9 hs9 ho9 hn9 hB9
                  obtain ⟨v0, e0, p0⟩ := hn9 0 _ 61 rfl rfl
                  obtain ⟨v1, e1, p1⟩ := hn9 1 _ 62 rfl rfl
                  obtain ⟨v2, e2, p2⟩ := hn9 2 _ 63 rfl rfl
                  obtain ⟨v3, e3, p3⟩ := hn9 3 _ 64 rfl rfl
                  obtain ⟨v4, e4, p4⟩ := hn9 4 _ 65 rfl rfl
                  obtain ⟨v5, e5, p5⟩ := hn9 5 _ 66 rfl rfl
                  obtain ⟨v6, e6, p6⟩ := hn9 6 _ 67 rfl rfl
                  obtain ⟨v7, e7, p7⟩ := hn9 7 _ 68 rfl rfl
                  obtain ⟨v8, e8, p8⟩ := hn9 8 _ 69 rfl rfl
                  obtain ⟨v9, e9, p9⟩ := hn9 9 _ 70 rfl rfl
                  obtain ⟨v10, e10, p10⟩ := hn9 10 _ 71 rfl rfl
                  obtain ⟨v11, e11, p11⟩ := hn9 11 _ 72 rfl rfl
                  obtain ⟨v12, e12, p12⟩ := hn9 12 _ 73 rfl rfl
                  obtain ⟨v13, e13, p13⟩ := hn9 13 _ 74 rfl rfl
                  obtain ⟨v14, e14, p14⟩ := hn9 14 _ 75 rfl rfl
                  obtain rfl : v0 = .slice (some ⟨b2, o2, none⟩) L.length b1 := p0
                  obtain rfl : v1 = .int .i64 (q : Int) := p1
                  obtain rfl : v2 = .pointer (some ⟨b2, o2 + q * 10, none⟩) := p2
                  obtain rfl : v3 = .agg #[.int .i8 z.f, .int .u16 z.g0, .int .u16 z.g1, .int .u16 z.g2, .int .u16 z.g3, .int .u16 z.g4, .int .u16 z.g5, .int .u16 z.g6, .int .u16 z.g7, .int .i64 z.p] := p3
                  obtain rfl : v4 = .agg #[.int .i8 x.f, .int .u16 x.g0, .int .u16 x.g1, .int .u16 x.g2, .int .u16 x.g3, .int .u16 x.g4, .int .u16 x.g5, .int .u16 x.g6, .int .u16 x.g7, .int .i64 x.p] := p4
                  obtain rfl : v5 = .bool false := p5
                  obtain rfl : v6 = .bool false := p6
                  obtain rfl : v7 = .slice s1 m.length c1 := p7
                  obtain rfl : v8 = .slice (some ⟨b2, o2, none⟩) L.length b1 := p8
                  obtain rfl : v9 = .int .i64 (q : Int) := p9
                  obtain rfl : v10 = .pointer (some ⟨b2, o2 + q * 10, none⟩) := p10
                  obtain rfl : v11 = .agg #[.int .i8 z.f, .int .u16 z.g0, .int .u16 z.g1, .int .u16 z.g2, .int .u16 z.g3, .int .u16 z.g4, .int .u16 z.g5, .int .u16 z.g6, .int .u16 z.g7, .int .i64 z.p] := p11
                  obtain rfl : v12 = .int .i64 pb := p12
                  obtain rfl : v13 = .bool false := p13
                  obtain rfl : v14 = .bool false := p14
                  have ha := ByOps.act_eq [(61, .slice (some ⟨b2, o2, none⟩) L.length b1), (62, .int .i64 (q : Int)), (63, .pointer (some ⟨b2, o2 + q * 10, none⟩)), (64, .agg #[.int .i8 z.f, .int .u16 z.g0, .int .u16 z.g1, .int .u16 z.g2, .int .u16 z.g3, .int .u16 z.g4, .int .u16 z.g5, .int .u16 z.g6, .int .u16 z.g7, .int .i64 z.p]), (65, .agg #[.int .i8 x.f, .int .u16 x.g0, .int .u16 x.g1, .int .u16 x.g2, .int .u16 x.g3, .int .u16 x.g4, .int .u16 x.g5, .int .u16 x.g6, .int .u16 x.g7, .int .i64 x.p]), (66, .bool false), (67, .bool false), (68, .slice s1 m.length c1), (69, .slice (some ⟨b2, o2, none⟩) L.length b1), (70, .int .i64 (q : Int)), (71, .pointer (some ⟨b2, o2 + q * 10, none⟩)), (72, .agg #[.int .i8 z.f, .int .u16 z.g0, .int .u16 z.g1, .int .u16 z.g2, .int .u16 z.g3, .int .u16 z.g4, .int .u16 z.g5, .int .u16 z.g6, .int .u16 z.g7, .int .i64 z.p]), (73, .int .i64 pb), (74, .bool false), (75, .bool false)] a9 _ hd9 hs9 (fun t ht => ho9 t (ByOps.outer_of (ts := [61, 62, 63, 64, 65, 66, 67, 68, 69, 70, 71, 72, 73, 74, 75]) rfl ht)) (by intro p hp; simp only [List.mem_cons, List.not_mem_nil, or_false] at hp; rcases hp with rfl | rfl | rfl | rfl | rfl | rfl | rfl | rfl | rfl | rfl | rfl | rfl | rfl | rfl | rfl <;> assumption)
                  rw [ha]
                  clear ha hn9 ho9 hs9 hd9 e0 e1 e2 e3 e4 e5 e6 e7 e8 e9 e10 e11 e12 e13 e14
                  simp only [List.foldl, Act.put, List.setIfInBounds_toArray, List.set_cons_zero, List.set_cons_succ]
                  have hb9 : Below wQ.heap.size wQ wb := ⟨hB9.os, hB9.tape, hB9.output, hB9.size, hB9.block⟩
                  clear hB9
                  have hb := hb9
                  clear hb9 hE hgd
                  replace HQ := Lib.hid (HQ.out.trans (hb.mono HQ.out.size))
                  replace Hl := Lib.hid (Hl.out.below hb)
                  replace Hm := Lib.hid (Hm.out.below hb)
                  replace HA := Lib.hid (HA.out.below hb)
                  replace HP := Lib.hid (HP.out.below hb)
                  replace Hx := Lib.hid ((hb.block _ (lt_of_block Hx.out)).trans Hx.out)
                  replace HB := Lib.hid (HB.out.trans (hb.mono HB.out.size))
                  clear hb
                  clear HCz
                  obtain ⟨b4, o4, hq4, hbl, hat⟩ := HA.out.2.2.2 (by omega)
                  cases hq4
                  obtain ⟨⟨d0, d1, d2, d3, d4⟩, d5, d6, d7, d8, d9⟩ := AK.ten hat hz.out
                  clear hbl hat
                  have HX := Lib.hid (rplace_any L2 z aN cN pc wb hpc.out HP.out)
                  go_wp2_with fail
                  with_reducible refine HX.out.mono ?_
                  rintro e w3 ⟨rfl, hb⟩
                  clear HX
                  replace HQ := Lib.hid (HQ.out.trans (hb.mono HQ.out.size))
                  replace Hl := Lib.hid (Hl.out.below hb)
                  replace Hm := Lib.hid (Hm.out.below hb)
                  replace HA := Lib.hid (HA.out.below hb)
                  replace HP := Lib.hid (HP.out.below hb)
                  replace Hx := Lib.hid ((hb.block _ (lt_of_block Hx.out)).trans Hx.out)
                  replace HB := Lib.hid (HB.out.trans (hb.mono HB.out.size))
                  clear hb
                  clear d0 d1 d2 d3 d4 d5 d6 d7 d8 d9
                  go_wp2_with fail
                  go_roundw
                  case rel => exact ⟨q + 1, rfl, by go_num, by omega, Lib.hid HQ.out⟩
                  case measure => simp [intOf]; omega
          · go_wp2_with fail
            with_reducible refine (HWk.out _).mono ?_
            rintro e wf ⟨rfl, hb⟩
            have HBf := Lib.hid (HB.out.trans (hb.mono HB.out.size))
            clear hb
            go_wp2_with fail
            go_ret
            exact ⟨rfl, HBf.out⟩
end Go.Proofs.Ytcihcdifjnobjaa
