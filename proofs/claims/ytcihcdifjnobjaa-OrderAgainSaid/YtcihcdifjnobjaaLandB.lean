/- The landed order: where one stands first; the first ones; rows one behind the other. -/
import Derived.Test.YtcihcdifjnobjaaLandA
import Derived.Test.YtcihcdifjnobjaaGrowShelf
import Derived.Lib.LazyBuf
set_option linter.unusedSimpArgs false
set_option linter.unusedVariables false
namespace Go.Proofs.Ytcihcdifjnobjaa
open Go.RowKit Go.Proofs.Ytcihcdifjnobjaa.Kind Go.Shelf

set_option maxHeartbeats 4000000 in
set_option maxRecDepth 1000000 in
theorem index_ad (x : Ad) (l : List Ad) (m : Nat) (hm : m = l.length) (a : Option Addr) (c : Nat) (w : World) (hR : AK.RowC w a c l) :
    Calls Try.prog 29 #[.slice a m c, .agg #[.int .i8 x.f, .int .u16 x.g0, .int .u16 x.g1, .int .u16 x.g2, .int .u16 x.g3, .int .u16 x.g4, .int .u16 x.g5, .int .u16 x.g6, .int .u16 x.g7, .int .i64 x.p]] w fun e w' => e = .returned (.int .i64 (placeZ l x)) ∧ Below w.heap.size w w' := by
  subst hm
  have hlen : (l.length : Int) ≤ 9223372036854775807 := by have h1 := hR.1; have h2 := hR.2.1; unfold maxLen at h2; omega
  obtain ⟨o1, ho1⟩ : ∃ o1 : Obj, o1 = .cells #[.int .i8 x.f, .int .u16 x.g0, .int .u16 x.g1, .int .u16 x.g2, .int .u16 x.g3, .int .u16 x.g4, .int .u16 x.g5, .int .u16 x.g6, .int .u16 x.g7, .int .i64 x.p] 27 := ⟨_, rfl⟩
  have HR := Lib.hid (hR.below (below1 w o1))
  have HB1 := Lib.hid (below1 w o1)
  have HL1 := Lib.hid (laid1 w o1)
  rw [ho1] at HR HB1 HL1
  clear hR ho1
  obtain ⟨W1, hW1⟩ : ∃ W1, W1 = w.alloc (.cells #[.int .i8 x.f, .int .u16 x.g0, .int .u16 x.g1, .int .u16 x.g2, .int .u16 x.g3, .int .u16 x.g4, .int .u16 x.g5, .int .u16 x.g6, .int .u16 x.g7, .int .i64 x.p] 27) := ⟨_, rfl⟩
  have hN : W1.heap.size = w.heap.size + 1 := by rw [hW1]; simp
  rw [← hW1] at HR HB1 HL1
  go_enter Try.func29, Try.ntmps29
  go_upto_region 1 with fail
  rw [← hW1]
  clear hW1
  go_wp2_with fail
  go_loopw [4, 8] (fun r i wr => ∃ k : Nat, r = .int .i64 0 ∧ i = .int .i64 k ∧ k ≤ l.length ∧ Hid (NotTo l x k) ∧ Below W1.heap.size W1 wr) (fun _ i _ => l.length - (intOf i).toNat)
  case atStart => exact ⟨0, rfl, rfl, by omega, Lib.hid (fun j y hj => by omega), Below.refl _ _⟩
  case round =>
    obtain ⟨k, rfl, rfl, hk, hn, hb⟩ := hrel
    have HN := Lib.hid hn.out
    have HB := Lib.hid hb
    clear hn hb
    by_cases hki : k < l.length
    · obtain ⟨y, hy⟩ : ∃ y, l[k]? = some y := ⟨_, List.getElem?_eq_getElem hki⟩
      obtain ⟨b, o, rfl, hbl, hat⟩ := HR.out.2.2.2 (by omega)
      obtain ⟨⟨y0, y1, y2, y3, y4⟩, y5, y6, y7, y8, y9⟩ := AK.ten (hat.below HB.out hbl) hy
      obtain ⟨⟨x0, x1, x2, x3, x4, x5, x6, x7, x8, x9⟩, _⟩ := boxes10 ((HB.out.block w.heap.size (by omega)).trans HL1.out)
      have hE := eql_ad x y
      have hG := guard_ad
      have HX := Lib.hid hy
      clear hy hat
      by_cases hq : x = y
      · have hd : decide (x = y) = true := decide_eq_true hq
        rw [hd] at hE
        have HD := Lib.hid hd
        clear hd hq
        go_upto_region 4 with fail
        go_quiet (fail)
        go_wp2_with fail
        go_ret
        exact ⟨by rw [place_at (by rw [of_decide_eq_true HD.out]; exact HX.out) HN.out]; rfl, HB1.out.trans ((below_drewN HB.out _).mono (by omega))⟩
      · have hd : decide (x = y) = false := decide_eq_false hq
        rw [hd] at hE
        have HD := Lib.hid hd
        clear hd hq
        go_upto_region 4 with fail
        go_quiet (fail)
        go_wp2_with fail
        go_roundw
        case rel => exact ⟨k + 1, rfl, by go_num, by omega, Lib.hid (notTo_step HN.out HX.out (fun e => of_decide_eq_false HD.out e.symm)), below_drewN HB.out _⟩
        case measure => simp [intOf]; omega
    · obtain rfl : k = l.length := by omega
      go_wp2_with fail
      go_ret
      exact ⟨by rw [place_none HN.out]; rfl, HB1.out.trans (HB.out.mono (by omega))⟩

set_option maxHeartbeats 4000000 in
set_option maxRecDepth 1000000 in
theorem place_spec : PlaceSpec := by
  intro l x a c r w hr hl hR
  obtain ⟨o1, ho1⟩ : ∃ o1 : Obj, o1 = .cells #[.int .i8 x.f, .int .u16 x.g0, .int .u16 x.g1, .int .u16 x.g2, .int .u16 x.g3, .int .u16 x.g4, .int .u16 x.g5, .int .u16 x.g6, .int .u16 x.g7, .int .i64 x.p] 27 := ⟨_, rfl⟩
  have HC := Lib.hid (index_ad x l l.length rfl a c (w.alloc o1) (hR.below (below1 w o1)))
  have HB1 := Lib.hid (below1 w o1)
  rw [ho1, ← hr] at HC
  rw [ho1] at HB1
  clear hR hr ho1
  simp only [Ad.v]
  go_enter Try.func20, Try.ntmps20
  go_wp2_with fail
  with_reducible refine HC.out.mono ?_
  rintro e w' ⟨rfl, hb⟩
  have HB2 := Lib.hid (HB1.out.trans (hb.mono (by simp)))
  clear hb HC
  go_wp2_with fail
  go_ret
  exact ⟨rfl, HB2.out⟩

set_option maxHeartbeats 2000000 in
set_option maxRecDepth 1000000 in
theorem cl_ads (l : List Ad) (m : Nat) (hm : m = l.length) (a : Option Addr) (c : Nat) (w : World) (hR : AK.RowC w a c l) (hl : l.length * AK.bytes ≤ 140737488355328) :
    Calls Try.prog 28 #[.slice a m c] w fun e w' => ∃ a' c', e = .returned (.slice a' m c') ∧ AK.RowC w' a' c' l ∧ Below w.heap.size w w' := by
  subst hm
  have hq : ∀ (a : Option Addr) (n : Nat) (W : World), (binOp .eql 22 (.slice a n c) (.slice none 0 0)).run Try.prog W = .ok (.bool a.isNone) W := fun a n W => Go.run_eql_slice_nil W _ _ a n c Try.underlying22
  cases a with
  | none =>
    obtain rfl : c = 0 := hR.2.2.1 rfl
    obtain rfl : l = [] := List.length_eq_zero_iff.1 (by have := hR.1; omega)
    go_enter Try.func28, Try.ntmps28
    go_wp2_with fail
    go_ret
    exact ⟨none, 0, rfl, row_none _, Below.refl _ _⟩
  | some ad =>
    have HR := Lib.hid hR
    clear hR
    go_enter Try.func28, Try.ntmps28
    go_wp2_with (first | (at_builtin; refine wpList_append_rows_b AK rfl _ _ rfl w.heap.size _ rfl [] (dst_bare _ _ _) (some ad) l.length c rfl l rfl (HR.out.below (below1 w _)) (by rw [List.length_nil, Nat.zero_add]; exact hl) (by simp; exact Nat.le_trans HR.out.1 HR.out.2.1) (by simp) ?_; intro a' c' w1 hD hM hB) | go_in)
    go_ret
    exact ⟨a', c', rfl, hM.row, (below1 w _).trans hB⟩

set_option maxHeartbeats 4000000 in
set_option maxRecDepth 1000000 in
theorem first_spec : FirstSpec := by
  intro n l s c L w hL hl hR
  obtain ⟨m, hm1, hm2, hm3⟩ : ∃ m : Nat, m ≤ l.length ∧ L = l.take m ∧ min (max n 0) (l.length : Int) = (m : Int) := by
    refine ⟨min n.toNat l.length, Nat.min_le_right _ _, ?_, ?_⟩
    · rw [hL]; unfold firstZ; rw [← List.take_eq_take_min]
    · omega
  have hmi : (m : Int) ≤ (l.length : Int) := by omega
  have hm0 : (0 : Int) ≤ (m : Int) := by omega
  have hLl : L.length = m := by rw [hm2, List.length_take]; omega
  have hc1 : (m : Int) ≤ (c : Int) := by have := hR.1; omega
  have HT := Lib.hid (hm2 ▸ hR.take (a' := s) m hm1 rfl : AK.RowC w s c L)
  have HC := Lib.hid (cl_ads L m hLl.symm s c w HT.out (by show L.length * 32 ≤ _; omega))
  have HLl := Lib.hid hLl
  clear hR hL hm2 hLl hl HT
  go_enter Try.func18, Try.ntmps18
  go_wp2_with fail
  with_reducible refine HC.out.mono ?_
  rintro e w' ⟨a1, c1, rfl, h1, h2⟩
  have H1 := Lib.hid h1
  have H2 := Lib.hid h2
  clear h1 h2 HC
  go_wp2_with fail
  go_ret
  exact ⟨a1, c1, by rw [HLl.out]; rfl, H1.out, H2.out⟩

theorem zero_size (z : Array Value) (n : Nat) : (Builtin.zeroCells z n).size = n * z.size := by simp [Builtin.zeroCells]
theorem grow_kind {Pr : Program} {α : Type} (K : Kind Pr α) {ρ : Go.Shelf.Ren} (L : Lays8.n4 Pr ρ) (hT : ρ.t 25 = K.T) (n : Nat) (w : World) (hn : n ≤ 4000000) :
    Calls Pr (ρ.f 4) #[.slice none 0 0, .int .i64 n] w fun e w' => ∃ a c, e = .returned (.slice a 0 c) ∧ K.Own w' w.heap.size (.slice a 0 c) [] ∧ Below w.heap.size w w' := by
  obtain ⟨i0, hi, hz0, hz1, hz2⟩ := info_parts K.hi
  by_cases h : n = 0
  · subst h
    refine (Any8.slices_Grow_room L none 0 0 0 w (by simp) (by simp) (by simp) (by simp)).mono ?_
    rintro e w' ⟨rfl, rfl⟩
    exact ⟨none, 0, rfl, own_nil _ _, Below.refl _ _⟩
  · have hb := K.small_bytes n hn
    have hk0 := K.hk0
    have h1 := Any8.slices_Grow_grow L i0 K.z (by rw [hT]; exact hi) hz0 (by rw [hz1]; exact hk0) none 0 0 n [] w (by simp) (by omega) (by rw [hz2, Nat.zero_add]; exact hb) (by omega) (by simp) (fun _ => rfl) (fun a ha => by cases ha)
    rw [hT] at h1
    refine h1.mono ?_
    rintro e w' ⟨rfl, rfl⟩
    have hge := grownCap_ge w (0 + n) 0 K.T
    refine ⟨_, _, rfl, ?_, ((Below.refl w.heap.size w).drew).alloc (Nat.le_refl _) _⟩
    have h2 := World.ownsRow_made (base := w.heap.size) (e := K.T) (size := K.k) w.drew ((([] : List Value).toArray ++ Builtin.zeroCells K.z.cells (0 + n - 0) ++ Builtin.zeroCells K.z.cells (grownCap w (0 + n) 0 K.T - (0 + n)))) (grownCap w (0 + n) 0 K.T) (Nat.le_refl _)
      (grownCap_le_maxLen w _ _ _ (by unfold maxLen; omega)) (by
        rw [Array.size_append, Array.size_append, zero_size, zero_size, K.hz]
        simp only [List.size_toArray, List.length_nil, Nat.zero_add, Nat.sub_zero]
        rw [← Nat.add_mul]
        congr 1
        simp only [Nat.zero_add] at hge ⊢
        omega)
    exact h2

theorem grow_ad (n : Nat) (w : World) (hn : n ≤ 4000000) :
    Calls Try.prog 33 #[.slice none 0 0, .int .i64 n] w fun e w' => ∃ a c, e = .returned (.slice a 0 c) ∧ AK.Own w' w.heap.size (.slice a 0 c) [] ∧ Below w.heap.size w w' := grow_kind AK Try.growA rfl n w hn

set_option maxHeartbeats 4000000 in
set_option maxRecDepth 1000000 in
theorem concat_ad (l k : List Ad) (L : List Ad) (hL : L = l ++ k) (hlen : l.length + k.length ≤ 4000000) (a b : Option Addr) (c d g : Nat) (w : World) (hA : AK.RowC w a c l) (hB : AK.RowC w b d k) (hg : w.heap[g]? = some (.cells #[.slice a l.length c, .slice b k.length d] 22 (0, 0))) :
    Calls Try.prog 27 #[.slice (some ⟨g, 0, none⟩) 2 2] w fun e w' => ∃ a' c', e = .returned (.slice a' L.length c') ∧ AK.Own w' w.heap.size (.slice a' L.length c') L ∧ Below w.heap.size w w' := by
  have HA := Lib.hid hA
  have HB := Lib.hid hB
  have HG := Lib.hid hg
  have HL := Lib.hid hL
  obtain ⟨z0, z1⟩ : w.cell? ⟨g, 0, none⟩ = some (.slice a l.length c) ∧ w.cell? ⟨g, 1, none⟩ = some (.slice b k.length d) := by simp [World.cell?, hg]
  have hglt := lt_of_block hg
  obtain ⟨p, hp⟩ : ∃ p, l.length = p := ⟨_, rfl⟩
  obtain ⟨q, hq⟩ : ∃ q, k.length = q := ⟨_, rfl⟩
  have HLn : L.length = p + q := by rw [hL, List.length_append, hp, hq]
  have HP := Lib.hid hp
  have HQ := Lib.hid hq
  rw [hp, hq] at hlen
  rw [hp] at z0
  rw [hq] at z1
  have HLN := Lib.hid HLn
  clear hA hB hg hL hp hq HLn
  have e1 : IntKind.i64.wrap (0 + (p : Int)) = p := by rw [IntKind.wrap_i64]; omega
  obtain ⟨s, hs⟩ : ∃ s : Nat, s = p + q := ⟨_, rfl⟩
  have e2 : IntKind.i64.wrap ((p : Int) + (q : Int)) = (s : Int) := by rw [IntKind.wrap_i64]; omega
  have hs4 : s ≤ 4000000 := by omega
  have HS := Lib.hid hs
  clear hs
  have e3 : IntKind.i64.wrap ((p : Int)) = p := by rw [IntKind.wrap_i64]; omega
  go_enter Try.func27, Try.ntmps27
  go_wp2_with fail
  go_loopw [3, 5, 11] (fun u3 _ u11 wr => wr = w ∧ ((u11 = .int .i64 0 ∧ u3 = .int .i64 0) ∨ (u11 = .int .i64 1 ∧ u3 = .int .i64 p) ∨ (u11 = .int .i64 2 ∧ u3 = .int .i64 (s : Int)))) (fun _ _ u _ => 2 - (intOf u).toNat)
  case atStart => exact ⟨rfl, .inl ⟨rfl, rfl⟩⟩
  case round =>
    obtain ⟨hw, hrel⟩ := hrel
    obtain rfl : w = wr := hw.symm
    obtain ⟨rfl, rfl⟩ | ⟨rfl, rfl⟩ | ⟨rfl, rfl⟩ := hrel
    · go_wp2_with fail
      go_roundw
      case rel => exact ⟨by first | rfl | trivial, .inr (.inl ⟨by go_num, by first | rfl | simp [e1, e3]⟩)⟩
      case measure => simp [intOf]
    · have hn0 : ¬ ((s : Int) < 0) := by omega
      go_wp2_with fail
      go_roundw
      case rel => exact ⟨by first | rfl | trivial, .inr (.inr ⟨by go_num, by first | rfl | simp [e2]⟩)⟩
      case measure => simp [intOf]
    · have HGr := Lib.hid (grow_ad s w hs4)
      go_wp2_with fail
      with_reducible refine HGr.out.mono ?_
      rintro e w1 ⟨a1, c1, rfl, hO, hb⟩
      have HO := Lib.hid hO
      have HB1 := Lib.hid hb
      have y0 := (hb.cell (p := ⟨g, 0, none⟩) hglt).trans z0
      have y1 := (hb.cell (p := ⟨g, 1, none⟩) hglt).trans z1
      clear hO hb HGr z0 z1
      go_wp2_with fail
      go_loopw [6, 8, 27] (fun u6 _ u27 wq => (wq = w1 ∧ u27 = .int .i64 0 ∧ u6 = .slice a1 0 c1) ∨ (∃ a2 c2, u27 = .int .i64 1 ∧ u6 = .slice a2 p c2 ∧ Hid (AK.Own wq w.heap.size (.slice a2 p c2) l) ∧ Hid (Below w.heap.size w wq)) ∨ (∃ a2 c2, u27 = .int .i64 2 ∧ u6 = .slice a2 L.length c2 ∧ Hid (AK.Own wq w.heap.size (.slice a2 L.length c2) L) ∧ Hid (Below w.heap.size w wq))) (fun _ _ u _ => 2 - (intOf u).toNat)
      case atStart => exact .inl ⟨rfl, rfl, rfl⟩
      case round =>
        rcases hrel with ⟨hw, rfl, rfl⟩ | ⟨a2, c2, rfl, rfl, hO2, hb2⟩ | ⟨a2, c2, rfl, rfl, hO2, hb2⟩
        · obtain rfl : w1 = wr := hw.symm
          go_wp2_with (at_builtin; refine AK.wpList_append_owned rfl _ _ rfl w.heap.size (.slice a1 0 c1) rfl [] HO.out a p c rfl l HP.out.symm (HA.out.below HB1.out) (by have := HP.out; simp; omega) HB1.out.size l rfl ?_; intro a2 c2 w2 hO2 hG2; have HO2 := Lib.hid hO2; have HB2 := Lib.hid (HB1.out.grown hG2 HB1.out.size (fun j e => (HO.out.lt j e).1)); clear hO2 hG2)
          go_roundw
          case rel =>
            have hp := HP.out
            rw [hp] at HO2 ⊢
            exact .inr (.inl ⟨_, _, by go_num, rfl, HO2, HB2⟩)
          case measure => simp [intOf]
        · have HO2 := Lib.hid hO2.out
          have HB2 := Lib.hid hb2.out
          clear hO2 hb2 y0 y1 HO HB1
          obtain ⟨y0, y1⟩ : wr.cell? ⟨g, 0, none⟩ = some (.slice a p c) ∧ wr.cell? ⟨g, 1, none⟩ = some (.slice b q d) := by
            have hq := HB2.out.block g hglt
            have hg := hq.trans HG.out
            rw [HP.out, HQ.out] at hg
            simp [World.cell?, hg]
          go_wp2_with (at_builtin; refine AK.wpList_append_owned rfl _ _ rfl w.heap.size (.slice a2 p c2) rfl l HO2.out b q d rfl k HQ.out.symm (HB.out.below HB2.out) (by have := HP.out; have := HQ.out; omega) HB2.out.size L HL.out ?_; intro a3 c3 w3 hO3 hG3; have HO3 := Lib.hid hO3; have HB3 := Lib.hid (HB2.out.grown hG3 HB2.out.size (fun j e => (HO2.out.lt j e).1)); clear hO3 hG3)
          go_roundw
          case rel => exact .inr (.inr ⟨_, _, by go_num, rfl, HO3, HB3⟩)
          case measure => simp [intOf]
        · have HO2 := Lib.hid hO2.out
          have HB2 := Lib.hid hb2.out
          clear hO2 hb2 y0 y1 HO HB1
          go_wp2_with fail
          go_ret
          exact ⟨_, _, rfl, HO2.out, HB2.out⟩

end Go.Proofs.Ytcihcdifjnobjaa
