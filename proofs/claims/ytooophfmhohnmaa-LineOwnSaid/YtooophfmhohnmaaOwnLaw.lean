/- LineOwn: the walk. -/
import Derived.Test.YtooophfmhohnmaaGreat
set_option linter.unusedSimpArgs false
set_option linter.unusedVariables false
namespace Go.Proofs.Ytooophfmhohnmaa
open Go.RowKit

/-- A row that may be written: from block B on, ahead of block K; each of its places holds some number. -/
def Box (w : World) (B K : Nat) (a : Option Addr) (n : Nat) : Prop := 0 < n → ∃ g, a = some ⟨g, 0, none⟩ ∧ B ≤ g ∧ g < K ∧ ∀ j, j < n → (∃ x, w.cell? ⟨g, j, none⟩ = some (.int .i64 x)) ∧ w.frozen? ⟨g, j, none⟩ = false
theorem MineC.box {w : World} {B : Nat} {a : Option Addr} {c : Nat} {l : List Int} {n : Nat} (h : MineC w B a c l) (hn : n = l.length) : Box w B w.heap.size a n := by
  subst hn
  intro hl
  obtain ⟨g, cur, t, h1, h2, h3, h4, h5⟩ := h.2.2.2 hl
  refine ⟨g, h1, h2, lt_heap h3, fun j hj => ⟨⟨l[j], ?_⟩, by simp [World.frozen?, h3]⟩⟩
  have := cells_at h3 h4 h5 j l[j] (List.getElem?_eq_getElem hj)
  rwa [Nat.zero_add] at this
theorem Box.below {w w' : World} {B B2 K K2 D : Nat} {a : Option Addr} {n : Nat} (h : Box w B K a n) (hb : Below D w w') (hD : K ≤ D) (hB : B2 ≤ B) (hK : K ≤ K2) : Box w' B2 K2 a n := fun hn => by
  obtain ⟨g, h1, h2, h3, h4⟩ := h hn
  refine ⟨g, h1, by omega, by omega, fun j hj => ?_⟩
  obtain ⟨⟨x, hx⟩, hf⟩ := h4 j hj
  exact ⟨⟨x, by rw [hb.cell (p := ⟨g, j, none⟩) (by simp; omega)]; exact hx⟩, by rw [hb.frozen (p := ⟨g, j, none⟩) (by simp; omega)]; exact hf⟩
theorem Box.set {w : World} {B K : Nat} {a : Option Addr} {n : Nat} (h : Box w B K a n) (p : Addr) (z : Int) : Box (w.setCell p (.int .i64 z)) B K a n := fun hn => by
  obtain ⟨g, h1, h2, h3, h4⟩ := h hn
  refine ⟨g, h1, h2, h3, fun j hj => ?_⟩
  obtain ⟨⟨x, hx⟩, hf⟩ := h4 j hj
  refine ⟨?_, by rw [World.frozen?_setCell]; exact hf⟩
  by_cases e : p = ⟨g, j, none⟩
  · subst e
    exact ⟨z, World.cell?_setCell_same (w := w) (a := ⟨g, j, none⟩) (v := .int .i64 z) hx⟩
  · exact ⟨x, (World.cell?_setCell_other (w := w) (a := p) (b := ⟨g, j, none⟩) (v := .int .i64 z) e).trans hx⟩
/-- A table of rows. -/
def Tab (w : World) (K : Nat) (rs : List (Option Addr × Nat × Nat)) : Prop := ∀ j r, rs[j]? = some r → w.cell? ⟨K, j, none⟩ = some (.slice r.1 r.2.1 r.2.2)
theorem Tab.set {w : World} {K : Nat} {rs : List (Option Addr × Nat × Nat)} (h : Tab w K rs) (p : Addr) (v : Value) (hp : p.block < K) : Tab (w.setCell p v) K rs := fun j r hr => by
  exact (World.cell?_setCell_other (w := w) (a := p) (b := ⟨K, j, none⟩) (v := v) (by intro e; subst e; simp at hp)).trans (h j r hr)
def Boxes (w : World) (B K : Nat) (rs : List (Option Addr × Nat × Nat)) : Prop := ∀ r ∈ rs, Box w B K r.1 r.2.1 ∧ r.2.1 ≤ 1000
theorem Boxes.set {w : World} {B K : Nat} {rs : List (Option Addr × Nat × Nat)} (h : Boxes w B K rs) (p : Addr) (z : Int) : Boxes (w.setCell p (.int .i64 z)) B K rs := fun r hr => ⟨(h r hr).1.set p z, (h r hr).2⟩

set_option maxHeartbeats 4000000 in
set_option maxRecDepth 1000000 in
theorem lineown_great (l : List Int) (n : Int) (a : Option Addr) (c : Nat) (w : World) (hg : 200 < l.length) (hl : l.length ≤ maxLen) :
    Calls Try.prog 6 #[.slice a l.length c, .int .i64 n] w fun e w' => e = .returned (.bool true) ∧ Below w.heap.size w w' := by
  have hq : decide (200 < l.length) = true := by simpa using hg
  go_enter Try.func6, Try.ntmps6
  go_wp2_with fail
  refine (great_one a l.length c w hl).mono ?_
  rw [hq]
  rintro e w1 ⟨rfl, hB⟩
  go_wp2_with fail
  refine (wakes_any w1).mono ?_
  rintro e w2 ⟨rfl, hB2⟩
  have hB := hB.trans (hB2.mono hB.size)
  go_wp2_with fail
  go_ret
  exact ⟨rfl, hB⟩

set_option maxHeartbeats 8000000 in
set_option maxRecDepth 1000000 in
theorem lineown_small (l : List Int) (n : Int) (a : Option Addr) (c : Nat) (w : World) (hl : l.length ≤ 200) (hI : ∀ x ∈ l, I64 x) (hn : I64 n) (hA : RowC w a c l)
    (x : Int) (l1 : List Int) (q : Bool) (hx : (l = x :: l1 ∧ q = true) ∨ (l = [] ∧ x = 0 ∧ l1 = [] ∧ q = false)) (y : Int) (l2 : List Int) (s : Bool) (hy : (l = l2 ++ [y] ∧ s = true) ∨ (l = [] ∧ y = 0 ∧ l2 = [] ∧ s = false))
    (L : List Int) (gn : Nat) (hL : L = P.keep l [n]) (hgn : gn + L.length = l.length) (T : List Int) (hT : T = l.reverse) (U : List Int) (hU : U = l ++ [n]) (n1 n2 n3 n4 n5 : Nat) (h1 : l1.length = n1) (h2 : l2.length = n2) (h3 : L.length = n3) (h4 : U.length = n4) (h5 : T.length = n5) :
    Calls Try.prog 6 #[.slice a l.length c, .int .i64 n] w fun e w' => e = .returned (.bool true) ∧ Below w.heap.size w w' := by
  have hq : decide (200 < l.length) = false := by simpa using hl
  have H1 := Lib.hid h1
  have H2 := Lib.hid h2
  have H3 := Lib.hid h3
  have H4 := Lib.hid h4
  have H5 := Lib.hid h5
  have HN1 := Lib.hid (show n1 ≤ 200 by rw [← h1]; rcases hx with ⟨h, _⟩ | ⟨_, _, h, _⟩ <;> (try rw [h] at hl) <;> simp at * <;> (try omega) <;> (try (rw [h]; simp)))
  have HN2 := Lib.hid (show n2 ≤ 200 by rw [← h2]; rcases hy with ⟨h, _⟩ | ⟨_, _, h, _⟩ <;> (try rw [h] at hl) <;> simp at * <;> (try omega) <;> (try (rw [h]; simp)))
  have HN3 := Lib.hid (show n3 ≤ 200 by omega)
  have HN4 := Lib.hid (show n4 ≤ 201 by rw [← h4, hU]; simp; omega)
  have HN5 := Lib.hid (show n5 ≤ 200 by rw [← h5, hT]; simpa using hl)
  have HA := Lib.hid hA
  have HI := Lib.hid hI
  have HJ := Lib.hid hn
  have HX := Lib.hid hx
  have HY := Lib.hid hy
  have HL := Lib.hid hL
  have HG := Lib.hid hgn
  have HT := Lib.hid hT
  have HU := Lib.hid hU
  clear h1 h2 h3 h4 h5 hA hI hn hx hy hL hgn hT hU
  go_enter Try.func6, Try.ntmps6
  go_wp2_with fail
  refine (great_one a l.length c w (by unfold maxLen; omega)).mono ?_
  rw [hq]
  rintro e w1 ⟨rfl, hB⟩
  have HB1 := Lib.hid hB
  have hs1 := hB.size
  clear hB
  go_upto_region 4 with (at_builtin; refine wpList_append_ints rfl _ _ rfl w.heap.size _ rfl [] (dst_made w1 _ 0 hs1) a l.length c rfl l rfl ((HA.out.below HB1.out).below ((Below.refl _ _).alloc (Nat.le_refl _) _)) (by simp; omega) (by simp; omega) ?_; intro a0 c0 w2 hD hM hB)
  simp only [List.nil_append] at hM
  have HB2 := Lib.hid ((HB1.out.alloc hs1 (.cells #[] 3)).trans hB)
  have HM0 := Lib.hid hM.row
  have hs2 := HB2.out.size
  clear hD hM hB
  have HF := Lib.hid (front_any x l1 l q HX.out a c w2 (by omega) (HA.out.below HB2.out))
  rw [H1.out] at HF
  go_wp2_with fail
  refine HF.out.mono ?_
  rintro e w3 ⟨a1, c1, rfl, hM, hB⟩
  have HB3 := Lib.hid hB
  have HM1 := Lib.hid (hM.box H1.out.symm)
  clear hM hB HF
  have HF := Lib.hid (back_any y l2 l s HY.out a c w3 (by omega) ((HA.out.below HB2.out).below HB3.out))
  rw [H2.out] at HF
  go_wp2_with fail
  refine HF.out.mono ?_
  rintro e w4 ⟨a2, c2, rfl, hM, hB⟩
  have hs3 := HB3.out.size
  have HB4 := Lib.hid (HB3.out.trans (hB.mono hs3))
  have HM2 := Lib.hid (hM.box H2.out.symm)
  replace HM1 := Lib.hid (HM1.out.below hB (Nat.le_refl _) (Nat.le_refl _) hB.size)
  have hs4 := HB4.out.size
  have hs34 := hB.size
  clear hM hB HF
  have HF := Lib.hid (drop_any l [n] L gn HL.out HG.out a (some ⟨w4.heap.size, 0, none⟩) c 1 (w4.alloc (.cells #[.int .i64 n] 3)) (by omega) (by simp) HI.out (by intro x hx; simp at hx; subst hx; exact HJ.out) (((HA.out.below HB2.out).below HB4.out).below ((Below.refl _ _).alloc (Nat.le_refl _) _)) (rowC_at w4 _ [n] _ _ 1 rfl rfl rfl (by simp)))
  rw [H3.out, List.length_singleton] at HF
  go_wp2_with fail
  refine HF.out.mono ?_
  rintro e w5 ⟨a3, c3, rfl, hM, hB⟩
  have HQ := Lib.hid (((Below.refl w4.heap.size w4).alloc (Nat.le_refl _) (.cells #[.int .i64 n] 3)).trans (hB.mono (by simp)))
  have HB5 := Lib.hid (HB4.out.trans (HQ.out.mono hs4))
  have hsq := HQ.out.size
  have HM3 := Lib.hid (hM.box H3.out.symm)
  replace HM1 := Lib.hid (HM1.out.below HQ.out (Nat.le_refl _) (Nat.le_refl _) hsq)
  replace HM2 := Lib.hid (HM2.out.below HQ.out (Nat.le_refl _) (Nat.le_refl _) hsq)
  have hs5 := HB5.out.size
  clear hM hB HF HQ
  have HF := Lib.hid (push_any l [n] U HU.out a (some ⟨w5.heap.size, 0, none⟩) c 1 (w5.alloc (.cells #[.int .i64 n] 3)) (by omega) (by simp) (((HA.out.below HB2.out).below HB5.out).below ((Below.refl _ _).alloc (Nat.le_refl _) _)) (rowC_at w5 _ [n] _ _ 1 rfl rfl rfl (by simp)))
  rw [H4.out, List.length_singleton] at HF
  go_wp2_with fail
  refine HF.out.mono ?_
  rintro e w6 ⟨a4, c4, rfl, hM, hB⟩
  have HQ := Lib.hid (((Below.refl w5.heap.size w5).alloc (Nat.le_refl _) (.cells #[.int .i64 n] 3)).trans (hB.mono (by simp)))
  have HB6 := Lib.hid (HB5.out.trans (HQ.out.mono hs5))
  have hsq2 := HQ.out.size
  have HM4 := Lib.hid (hM.box H4.out.symm)
  replace HM1 := Lib.hid (HM1.out.below HQ.out (Nat.le_refl _) (Nat.le_refl _) hsq2)
  replace HM2 := Lib.hid (HM2.out.below HQ.out (Nat.le_refl _) (Nat.le_refl _) hsq2)
  replace HM3 := Lib.hid (HM3.out.below HQ.out (Nat.le_refl _) (Nat.le_refl _) hsq2)
  have hs6 := HB6.out.size
  clear hM hB HF HQ
  have HF := Lib.hid (turned_any l T HT.out a c w6 (by omega) ((HA.out.below HB2.out).below HB6.out))
  rw [H5.out] at HF
  go_wp2_with fail
  refine HF.out.mono ?_
  rintro e w7 ⟨a5, c5, rfl, hM, hB⟩
  have HB7 := Lib.hid (HB6.out.trans (hB.mono hs6))
  have hsq3 := hB.size
  have HM5 := Lib.hid (hM.box H5.out.symm)
  replace HM1 := Lib.hid (HM1.out.below hB (Nat.le_refl _) (Nat.le_refl _) hsq3)
  replace HM2 := Lib.hid (HM2.out.below hB (Nat.le_refl _) (Nat.le_refl _) hsq3)
  replace HM3 := Lib.hid (HM3.out.below hB (Nat.le_refl _) (Nat.le_refl _) hsq3)
  replace HM4 := Lib.hid (HM4.out.below hB (Nat.le_refl _) (Nat.le_refl _) hsq3)
  have hs7 := HB7.out.size
  clear hM hB HF
  obtain ⟨rs, hrs⟩ : ∃ rs : List (Option Addr × Nat × Nat), rs = [(a1, n1, c1), (a2, n2, c2), (a3, n3, c3), (a4, n4, c4), (a5, n5, c5)] := ⟨_, rfl⟩
  obtain ⟨W0, hW0⟩ : ∃ W0, W0 = w7.alloc (.cells #[.slice a1 n1 c1, .slice a2 n2 c2, .slice a3 n3 c3, .slice a4 n4 c4, .slice a5 n5 c5] 22) := ⟨_, rfl⟩
  have HBW := Lib.hid (show Below w7.heap.size w7 W0 by rw [hW0]; exact (Below.refl _ _).alloc (Nat.le_refl _) _)
  have HTab := Lib.hid (show Tab W0 w7.heap.size rs by
    intro j r hr
    rw [hW0, World.cell?_alloc_new]
    rw [hrs] at hr
    match j, hr with
    | 0, hr => simp at hr; subst hr; rfl
    | 1, hr => simp at hr; subst hr; rfl
    | 2, hr => simp at hr; subst hr; rfl
    | 3, hr => simp at hr; subst hr; rfl
    | 4, hr => simp at hr; subst hr; rfl)
  have HBox := Lib.hid (show Boxes W0 w2.heap.size w7.heap.size rs by
    intro r hr
    rw [hrs] at hr
    simp only [List.mem_cons, List.not_mem_nil, or_false] at hr
    rcases hr with rfl | rfl | rfl | rfl | rfl
    · exact ⟨HM1.out.below HBW.out (Nat.le_refl _) (by omega) (Nat.le_refl _), by have := HN1.out; simp; omega⟩
    · exact ⟨HM2.out.below HBW.out (Nat.le_refl _) (by omega) (Nat.le_refl _), by have := HN2.out; simp; omega⟩
    · exact ⟨HM3.out.below HBW.out (Nat.le_refl _) (by simp; omega) (Nat.le_refl _), by have := HN3.out; simp; omega⟩
    · exact ⟨HM4.out.below HBW.out (Nat.le_refl _) (by simp; omega) (Nat.le_refl _), by have := HN4.out; simp; omega⟩
    · exact ⟨HM5.out.below HBW.out (Nat.le_refl _) (by omega) (Nat.le_refl _), by have := HN5.out; simp; omega⟩)
  have HRn := Lib.hid (show rs.length = 5 by rw [hrs]; rfl)
  have HB8 := Lib.hid (HB7.out.trans (HBW.out.mono hs7))
  have HW0 := Lib.hid hW0
  clear HM1 HM2 HM3 HM4 HM5 hrs hW0
  go_wp2_with fail
  go_loopw [17, 59] (fun u17 u59 wr => ∃ k : Nat, u59 = .int .i64 k ∧ k ≤ 5 ∧ Hid (Below w2.heap.size w2 wr) ∧ Hid (Tab wr w7.heap.size rs) ∧ Hid (Boxes wr w2.heap.size w7.heap.size rs)) (fun _ u _ => 5 - (intOf u).toNat)
  case atStart => exact ⟨0, rfl, by omega, by rw [← HW0.out]; exact HB8, by rw [← HW0.out]; exact HTab, by rw [← HW0.out]; exact HBox⟩
  case round =>
    clear HB8 HTab HBox HBW
    obtain ⟨k, rfl, hk, hb8, htab, hbox⟩ := hrel
    have HBk := Lib.hid hb8.out
    have HTk := Lib.hid htab.out
    have HXk := Lib.hid hbox.out
    clear hb8 htab hbox
    by_cases hlt : k < 5
    · obtain ⟨r, hr⟩ : ∃ r, rs[k]? = some r := ⟨_, List.getElem?_eq_getElem (by rw [HRn.out]; exact hlt)⟩
      have hc := HTk.out k r hr
      have HR := Lib.hid (List.mem_of_getElem? hr)
      have hrn := (HXk.out r HR.out).2
      obtain ⟨ra, rn, rc⟩ := r
      simp only at hc hrn
      clear hr
      go_wp2_with fail
      clear hc
      go_loopw [65] (fun u65 wr => ∃ i : Nat, u65 = .int .i64 i ∧ i ≤ rn ∧ Hid (Below w2.heap.size w2 wr) ∧ Hid (Tab wr w7.heap.size rs) ∧ Hid (Boxes wr w2.heap.size w7.heap.size rs)) (fun u _ => rn - (intOf u).toNat)
      case atStart => exact ⟨0, rfl, by omega, HBk, HTk, HXk⟩
      case round =>
        clear HBk HTk HXk
        obtain ⟨i, rfl, hi, hb8, htab, hbox⟩ := hrel
        have HBk := Lib.hid hb8.out
        have HTk := Lib.hid htab.out
        have HXk := Lib.hid hbox.out
        clear hb8 htab hbox
        by_cases hil : i < rn
        · obtain ⟨g, hg, hgB, hgK, hcells⟩ := (HXk.out _ HR.out).1 (by simp; omega)
          simp only at hg
          subst hg
          obtain ⟨⟨z, hz⟩, hf⟩ := hcells i (by simpa using hil)
          clear hcells
          go_wp2_with fail
          go_roundw
          case rel => exact ⟨i + 1, by go_num, by omega, Lib.hid (HBk.out.setCell (by simpa using hgB) _), Lib.hid (HTk.out.set _ _ (by simpa using hgK)), Lib.hid (HXk.out.set _ _)⟩
          case measure => simp [intOf]; omega
        · obtain rfl : i = rn := by omega
          go_wp2_with fail
          go_roundw
          case rel => exact ⟨k + 1, by go_num, by omega, HBk, HTk, HXk⟩
          case measure => simp [intOf]; omega
    · obtain rfl : k = 5 := by omega
      rename World => v0
      have HBv := Lib.hid (HB2.out.trans (HBk.out.mono hs2))
      have hsv := HBv.out.size
      have HAv := Lib.hid (HA.out.below HBv.out)
      have HMv := Lib.hid (HM0.out.below HBk.out)
      have hcc := HAv.out.1
      clear HBk HTk HXk
      have HF := fun (a' : Option Addr) (ha : a' = a) => Lib.hid (push_any [] [5] [5] rfl a' (some ⟨v0.heap.size, 0, none⟩) c 1 (v0.alloc (.cells #[.int .i64 5] 3)) (by simp) (by simp) ((HAv.out.take (a' := a') 0 (by omega) ha).below ((Below.refl _ _).alloc (Nat.le_refl _) _)) (rowC_at v0 _ [5] _ _ 1 rfl rfl rfl (by simp)))
      simp only [List.length_nil, List.length_singleton] at HF
      have hc0 : (0 : Int) ≤ (c : Int) := by omega
      go_wp2_with fail
      refine (HF a rfl).out.mono ?_
      rintro e w8 ⟨a8, c8, rfl, hM, hB⟩
      have HQ := Lib.hid (((Below.refl v0.heap.size v0).alloc (Nat.le_refl _) (.cells #[.int .i64 5] 3)).trans (hB.mono (by simp)))
      have HB9 := Lib.hid (HBv.out.trans (HQ.out.mono hsv))
      have HM8 := Lib.hid hM.row
      replace HAv := Lib.hid (HAv.out.below HQ.out)
      replace HMv := Lib.hid (HMv.out.below HQ.out)
      clear hM hB HF HQ
      go_wp2_with fail
      refine (same_any l l a a0 c c0 w8 (by omega) (by omega) HAv.out HMv.out).mono ?_
      rw [dec_self]
      rintro e w9 ⟨rfl, hB⟩
      obtain ⟨b, o, rfl, hb, hat⟩ := (HM8.out.below hB).2.2.2 (by simp)
      have hc5 := hat 0 5 rfl
      rw [Nat.add_zero] at hc5
      have HB10 := Lib.hid (HB9.out.trans (hB.mono HB9.out.size))
      clear hB hat
      go_wp2_with fail
      refine (wakes_any w9).mono ?_
      rintro e w10 ⟨rfl, hB⟩
      have HB11 := Lib.hid (HB10.out.trans (hB.mono HB10.out.size))
      clear hB
      go_wp2_with fail
      go_ret
      exact ⟨rfl, HB11.out⟩

theorem lineown_walk (l : List Int) (n : Int) (a : Option Addr) (c : Nat) (w : World) (hl : l.length ≤ maxLen) (hI : ∀ x ∈ l, I64 x) (hn : I64 n) (hA : RowC w a c l) :
    Calls Try.prog 6 #[.slice a l.length c, .int .i64 n] w fun e w' => e = .returned (.bool true) ∧ Below w.heap.size w w' := by
  by_cases hg : 200 < l.length
  · exact lineown_great l n a c w hg hl
  · obtain ⟨x, l1, q, hx⟩ := P.front_of l
    obtain ⟨y, l2, s, hy⟩ := P.back_of l
    exact lineown_small l n a c w (by omega) hI hn hA x l1 q hx y l2 s hy _ (P.gone l [n]) rfl (by rw [P.keep_less]; have := P.less_length l [n]; unfold P.gone; omega) _ rfl _ rfl _ _ _ _ _ rfl rfl rfl rfl rfl
end Go.Proofs.Ytooophfmhohnmaa
