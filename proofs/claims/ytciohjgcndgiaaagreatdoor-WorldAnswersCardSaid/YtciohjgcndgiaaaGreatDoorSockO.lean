/- Two rows, one behind the other, in memory of the call's own. -/
import Derived.Test.YtciohjgcndgiaaaGreatDoorPure
import Derived.Test.YtciohjgcndgiaaaGreatDoorKit
import Derived.Test.YtciohjgcndgiaaaGreatDoorBoxes
import Derived.Test.YtciohjgcndgiaaaGreatDoorGrowShelf
import Derived.Test.YtciohjgcndgiaaaGreatDoorSpecs
set_option linter.unusedSimpArgs false
set_option linter.unusedVariables false
namespace Go.Proofs.YtciohjgcndgiaaaGreatDoor
open Go.RowKit Go.Proofs.YtciohjgcndgiaaaGreatDoor.Kind Go.Shelf

theorem zero_size (z : Array Value) (n : Nat) : (Builtin.zeroCells z n).size = n * z.size := by simp [Builtin.zeroCells]
theorem grow_kind {Pr : Program} {α : Type} (K : Kind Pr α) {ρ : Go.Shelf.Ren} (L : Lays8.n4 Pr ρ) (hT : ρ.t 25 = K.T) (n : Nat) (w : World) (hn : n ≤ 4000000) :
    Calls Pr (ρ.f 4) #[.slice none 0 0, .int .i64 n] w fun e w' => ∃ a c, e = .returned (.slice a 0 c) ∧ K.Own w' w.heap.size (.slice a 0 c) [] ∧ Below w.heap.size w w' := by
  obtain ⟨i0, hi, hz0, hz1, hz2⟩ := info_parts K.hi
  by_cases h : n = 0
  · subst h
    refine (Any8.slices_Grow_room L none 0 0 0 w (by simp) (by simp) (by simp) (by simp)).mono ?_
    rintro e w' ⟨rfl, rfl⟩
    exact ⟨none, 0, rfl, own_nil _ _, Below.refl _ _⟩
  · have hb := K.small_bytes n hn
    have hk0 := K.hk0
    have h1 := Any8.slices_Grow_grow L i0 K.z (by rw [hT]; exact hi) hz0 (by rw [hz1]; exact hk0) none 0 0 n [] w (by simp) (by omega) (by rw [hz2, Nat.zero_add]; exact hb) (by omega) (by simp) (fun _ => rfl) (fun a ha => by cases ha)
    rw [hT] at h1
    refine h1.mono ?_
    rintro e w' ⟨rfl, rfl⟩
    have hge := grownCap_ge w (0 + n) 0 K.T
    refine ⟨_, _, rfl, ?_, ((Below.refl w.heap.size w).drew).alloc (Nat.le_refl _) _⟩
    have h2 := World.ownsRow_made (base := w.heap.size) (e := K.T) (size := K.k) w.drew ((([] : List Value).toArray ++ Builtin.zeroCells K.z.cells (0 + n - 0) ++ Builtin.zeroCells K.z.cells (grownCap w (0 + n) 0 K.T - (0 + n)))) (grownCap w (0 + n) 0 K.T) (Nat.le_refl _)
      (grownCap_le_maxLen w _ _ _ (by unfold maxLen; omega)) (by
        rw [Array.size_append, Array.size_append, zero_size, zero_size, K.hz]
        simp only [List.size_toArray, List.length_nil, Nat.zero_add, Nat.sub_zero]
        rw [← Nat.add_mul]
        congr 1
        simp only [Nat.zero_add] at hge ⊢
        omega)
    exact h2

theorem grow_sock (n : Nat) (w : World) (hn : n ≤ 4000000) :
    Calls Tryz.prog 103 #[.slice none 0 0, .int .i64 n] w fun e w' => ∃ a c, e = .returned (.slice a 0 c) ∧ SK.Own w' w.heap.size (.slice a 0 c) [] ∧ Below w.heap.size w w' := grow_kind SK Tryz.growS rfl n w hn

set_option maxHeartbeats 4000000 in
set_option maxRecDepth 1000000 in
theorem concat_sock (l k : List Sk) (L : List Sk) (hL : L = l ++ k) (hlen : l.length + k.length ≤ 4000000) (a b : Option Addr) (c d g : Nat) (w : World) (hA : SK.RowC w a c l) (hB : SK.RowC w b d k) (hg : w.heap[g]? = some (.cells #[.slice a l.length c, .slice b k.length d] 27 (0, 0))) :
    Calls Tryz.prog 94 #[.slice (some ⟨g, 0, none⟩) 2 2] w fun e w' => ∃ a' c', e = .returned (.slice a' L.length c') ∧ SK.Own w' w.heap.size (.slice a' L.length c') L ∧ Below w.heap.size w w' := by
  have HA := Lib.hid hA
  have HB := Lib.hid hB
  have HG := Lib.hid hg
  have HL := Lib.hid hL
  obtain ⟨z0, z1⟩ : w.cell? ⟨g, 0, none⟩ = some (.slice a l.length c) ∧ w.cell? ⟨g, 1, none⟩ = some (.slice b k.length d) := by simp [World.cell?, hg]
  have hglt := lt_of_block hg
  obtain ⟨p, hp⟩ : ∃ p, l.length = p := ⟨_, rfl⟩
  obtain ⟨q, hq⟩ : ∃ q, k.length = q := ⟨_, rfl⟩
  have HLn : L.length = p + q := by rw [hL, List.length_append, hp, hq]
  have HP := Lib.hid hp
  have HQ := Lib.hid hq
  rw [hp, hq] at hlen
  rw [hp] at z0
  rw [hq] at z1
  have HLN := Lib.hid HLn
  clear hA hB hg hL hp hq HLn
  have e1 : IntKind.i64.wrap (0 + (p : Int)) = p := by rw [IntKind.wrap_i64]; omega
  obtain ⟨s, hs⟩ : ∃ s : Nat, s = p + q := ⟨_, rfl⟩
  have e2 : IntKind.i64.wrap ((p : Int) + (q : Int)) = (s : Int) := by rw [IntKind.wrap_i64]; omega
  have hs4 : s ≤ 4000000 := by omega
  have HS := Lib.hid hs
  clear hs
  have e3 : IntKind.i64.wrap ((p : Int)) = p := by rw [IntKind.wrap_i64]; omega
  go_enter Tryz.func94, Tryz.ntmps94
  go_wp2_with fail
  go_loopw [3, 5, 11] (fun u3 _ u11 wr => wr = w ∧ ((u11 = .int .i64 0 ∧ u3 = .int .i64 0) ∨ (u11 = .int .i64 1 ∧ u3 = .int .i64 p) ∨ (u11 = .int .i64 2 ∧ u3 = .int .i64 (s : Int)))) (fun _ _ u _ => 2 - (intOf u).toNat)
  case atStart => exact ⟨rfl, .inl ⟨rfl, rfl⟩⟩
  case round =>
    obtain ⟨hw, hrel⟩ := hrel
    obtain rfl : w = wr := hw.symm
    obtain ⟨rfl, rfl⟩ | ⟨rfl, rfl⟩ | ⟨rfl, rfl⟩ := hrel
    · go_wp2_with fail
      go_roundw
      case rel => exact ⟨by first | rfl | trivial, .inr (.inl ⟨by go_num, by first | rfl | simp [e1, e3]⟩)⟩
      case measure => simp [intOf]
    · have hn0 : ¬ ((s : Int) < 0) := by omega
      go_wp2_with fail
      go_roundw
      case rel => exact ⟨by first | rfl | trivial, .inr (.inr ⟨by go_num, by first | rfl | simp [e2]⟩)⟩
      case measure => simp [intOf]
    · have HGr := Lib.hid (grow_sock s w hs4)
      go_wp2_with fail
      with_reducible refine HGr.out.mono ?_
      rintro e w1 ⟨a1, c1, rfl, hO, hb⟩
      have HO := Lib.hid hO
      have HB1 := Lib.hid hb
      have y0 := (hb.cell (p := ⟨g, 0, none⟩) hglt).trans z0
      have y1 := (hb.cell (p := ⟨g, 1, none⟩) hglt).trans z1
      clear hO hb HGr z0 z1
      go_wp2_with fail
      go_loopw [6, 8, 27] (fun u6 _ u27 wq => (wq = w1 ∧ u27 = .int .i64 0 ∧ u6 = .slice a1 0 c1) ∨ (∃ a2 c2, u27 = .int .i64 1 ∧ u6 = .slice a2 p c2 ∧ Hid (SK.Own wq w.heap.size (.slice a2 p c2) l) ∧ Hid (Below w.heap.size w wq)) ∨ (∃ a2 c2, u27 = .int .i64 2 ∧ u6 = .slice a2 L.length c2 ∧ Hid (SK.Own wq w.heap.size (.slice a2 L.length c2) L) ∧ Hid (Below w.heap.size w wq))) (fun _ _ u _ => 2 - (intOf u).toNat)
      case atStart => exact .inl ⟨rfl, rfl, rfl⟩
      case round =>
        rcases hrel with ⟨hw, rfl, rfl⟩ | ⟨a2, c2, rfl, rfl, hO2, hb2⟩ | ⟨a2, c2, rfl, rfl, hO2, hb2⟩
        · obtain rfl : w1 = wr := hw.symm
          go_wp2_with (at_builtin; refine SK.wpList_append_owned rfl _ _ rfl w.heap.size (.slice a1 0 c1) rfl [] HO.out a p c rfl l HP.out.symm (HA.out.below HB1.out) (by have := HP.out; simp; omega) HB1.out.size l rfl ?_; intro a2 c2 w2 hO2 hG2; have HO2 := Lib.hid hO2; have HB2 := Lib.hid (HB1.out.grown hG2 HB1.out.size (fun j e => (HO.out.lt j e).1)); clear hO2 hG2)
          go_roundw
          case rel =>
            have hp := HP.out
            rw [hp] at HO2 ⊢
            exact .inr (.inl ⟨_, _, by go_num, rfl, HO2, HB2⟩)
          case measure => simp [intOf]
        · have HO2 := Lib.hid hO2.out
          have HB2 := Lib.hid hb2.out
          clear hO2 hb2 y0 y1 HO HB1
          obtain ⟨y0, y1⟩ : wr.cell? ⟨g, 0, none⟩ = some (.slice a p c) ∧ wr.cell? ⟨g, 1, none⟩ = some (.slice b q d) := by
            have hq := HB2.out.block g hglt
            have hg := hq.trans HG.out
            rw [HP.out, HQ.out] at hg
            simp [World.cell?, hg]
          go_wp2_with (at_builtin; refine SK.wpList_append_owned rfl _ _ rfl w.heap.size (.slice a2 p c2) rfl l HO2.out b q d rfl k HQ.out.symm (HB.out.below HB2.out) (by have := HP.out; have := HQ.out; omega) HB2.out.size L HL.out ?_; intro a3 c3 w3 hO3 hG3; have HO3 := Lib.hid hO3; have HB3 := Lib.hid (HB2.out.grown hG3 HB2.out.size (fun j e => (HO2.out.lt j e).1)); clear hO3 hG3)
          go_roundw
          case rel => exact .inr (.inr ⟨_, _, by go_num, rfl, HO3, HB3⟩)
          case measure => simp [intOf]
        · have HO2 := Lib.hid hO2.out
          have HB2 := Lib.hid hb2.out
          clear hO2 hb2 y0 y1 HO HB1
          go_wp2_with fail
          go_ret
          exact ⟨_, _, rfl, HO2.out, HB2.out⟩

set_option maxHeartbeats 4000000 in
set_option maxRecDepth 1000000 in
theorem with_sock (l k : List Sk) (L : List Sk) (hL : L = l ++ k) (hlen : l.length + k.length ≤ 4000000) (a b : Option Addr) (c d : Nat) (w : World) (hA : SK.RowC w a c l) (hB : SK.RowC w b d k) :
    Calls Tryz.prog 82 #[.slice a l.length c, .slice b k.length d] w fun e w' => ∃ a' c', e = .returned (.slice a' L.length c') ∧ SK.Own w' w.heap.size (.slice a' L.length c') L ∧ Below w.heap.size w w' := by
  have hb := below1 w (.cells #[.slice a l.length c, .slice b k.length d] 27)
  have HC := Lib.hid (concat_sock l k L hL hlen a b c d w.heap.size (w.alloc (.cells #[.slice a l.length c, .slice b k.length d] 27)) (hA.below hb) (hB.below hb) (laid1 w _))
  have HB1 := Lib.hid hb
  clear hA hB hL hb
  go_enter Tryz.func82, Tryz.ntmps82
  go_wp2_with fail
  with_reducible refine HC.out.mono ?_
  rintro e w' ⟨a', c', rfl, hO, hb⟩
  have HO := Lib.hid (hO.mono (b2 := w.heap.size) (by simp))
  have HB2 := Lib.hid (HB1.out.trans (hb.mono (by simp)))
  clear hO hb HC
  go_wp2_with fail
  go_ret
  exact ⟨_, _, rfl, HO.out, HB2.out⟩

theorem grow_mark (n : Nat) (w : World) (hn : n ≤ 4000000) :
    Calls Tryz.prog 104 #[.slice none 0 0, .int .i64 n] w fun e w' => ∃ a c, e = .returned (.slice a 0 c) ∧ NK.Own w' w.heap.size (.slice a 0 c) [] ∧ Below w.heap.size w w' := grow_kind NK Tryz.growN rfl n w hn

set_option maxHeartbeats 4000000 in
set_option maxRecDepth 1000000 in
theorem concat_mark (l k : List Nk) (L : List Nk) (hL : L = l ++ k) (hlen : l.length + k.length ≤ 4000000) (a b : Option Addr) (c d g : Nat) (w : World) (hA : NK.RowC w a c l) (hB : NK.RowC w b d k) (hg : w.heap[g]? = some (.cells #[.slice a l.length c, .slice b k.length d] 30 (0, 0))) :
    Calls Tryz.prog 95 #[.slice (some ⟨g, 0, none⟩) 2 2] w fun e w' => ∃ a' c', e = .returned (.slice a' L.length c') ∧ NK.Own w' w.heap.size (.slice a' L.length c') L ∧ Below w.heap.size w w' := by
  have HA := Lib.hid hA
  have HB := Lib.hid hB
  have HG := Lib.hid hg
  have HL := Lib.hid hL
  obtain ⟨z0, z1⟩ : w.cell? ⟨g, 0, none⟩ = some (.slice a l.length c) ∧ w.cell? ⟨g, 1, none⟩ = some (.slice b k.length d) := by simp [World.cell?, hg]
  have hglt := lt_of_block hg
  obtain ⟨p, hp⟩ : ∃ p, l.length = p := ⟨_, rfl⟩
  obtain ⟨q, hq⟩ : ∃ q, k.length = q := ⟨_, rfl⟩
  have HLn : L.length = p + q := by rw [hL, List.length_append, hp, hq]
  have HP := Lib.hid hp
  have HQ := Lib.hid hq
  rw [hp, hq] at hlen
  rw [hp] at z0
  rw [hq] at z1
  have HLN := Lib.hid HLn
  clear hA hB hg hL hp hq HLn
  have e1 : IntKind.i64.wrap (0 + (p : Int)) = p := by rw [IntKind.wrap_i64]; omega
  obtain ⟨s, hs⟩ : ∃ s : Nat, s = p + q := ⟨_, rfl⟩
  have e2 : IntKind.i64.wrap ((p : Int) + (q : Int)) = (s : Int) := by rw [IntKind.wrap_i64]; omega
  have hs4 : s ≤ 4000000 := by omega
  have HS := Lib.hid hs
  clear hs
  have e3 : IntKind.i64.wrap ((p : Int)) = p := by rw [IntKind.wrap_i64]; omega
  go_enter Tryz.func95, Tryz.ntmps95
  go_wp2_with fail
  go_loopw [3, 5, 11] (fun u3 _ u11 wr => wr = w ∧ ((u11 = .int .i64 0 ∧ u3 = .int .i64 0) ∨ (u11 = .int .i64 1 ∧ u3 = .int .i64 p) ∨ (u11 = .int .i64 2 ∧ u3 = .int .i64 (s : Int)))) (fun _ _ u _ => 2 - (intOf u).toNat)
  case atStart => exact ⟨rfl, .inl ⟨rfl, rfl⟩⟩
  case round =>
    obtain ⟨hw, hrel⟩ := hrel
    obtain rfl : w = wr := hw.symm
    obtain ⟨rfl, rfl⟩ | ⟨rfl, rfl⟩ | ⟨rfl, rfl⟩ := hrel
    · go_wp2_with fail
      go_roundw
      case rel => exact ⟨by first | rfl | trivial, .inr (.inl ⟨by go_num, by first | rfl | simp [e1, e3]⟩)⟩
      case measure => simp [intOf]
    · have hn0 : ¬ ((s : Int) < 0) := by omega
      go_wp2_with fail
      go_roundw
      case rel => exact ⟨by first | rfl | trivial, .inr (.inr ⟨by go_num, by first | rfl | simp [e2]⟩)⟩
      case measure => simp [intOf]
    · have HGr := Lib.hid (grow_mark s w hs4)
      go_wp2_with fail
      with_reducible refine HGr.out.mono ?_
      rintro e w1 ⟨a1, c1, rfl, hO, hb⟩
      have HO := Lib.hid hO
      have HB1 := Lib.hid hb
      have y0 := (hb.cell (p := ⟨g, 0, none⟩) hglt).trans z0
      have y1 := (hb.cell (p := ⟨g, 1, none⟩) hglt).trans z1
      clear hO hb HGr z0 z1
      go_wp2_with fail
      go_loopw [6, 8, 27] (fun u6 _ u27 wq => (wq = w1 ∧ u27 = .int .i64 0 ∧ u6 = .slice a1 0 c1) ∨ (∃ a2 c2, u27 = .int .i64 1 ∧ u6 = .slice a2 p c2 ∧ Hid (NK.Own wq w.heap.size (.slice a2 p c2) l) ∧ Hid (Below w.heap.size w wq)) ∨ (∃ a2 c2, u27 = .int .i64 2 ∧ u6 = .slice a2 L.length c2 ∧ Hid (NK.Own wq w.heap.size (.slice a2 L.length c2) L) ∧ Hid (Below w.heap.size w wq))) (fun _ _ u _ => 2 - (intOf u).toNat)
      case atStart => exact .inl ⟨rfl, rfl, rfl⟩
      case round =>
        rcases hrel with ⟨hw, rfl, rfl⟩ | ⟨a2, c2, rfl, rfl, hO2, hb2⟩ | ⟨a2, c2, rfl, rfl, hO2, hb2⟩
        · obtain rfl : w1 = wr := hw.symm
          go_wp2_with (at_builtin; refine NK.wpList_append_owned rfl _ _ rfl w.heap.size (.slice a1 0 c1) rfl [] HO.out a p c rfl l HP.out.symm (HA.out.below HB1.out) (by have := HP.out; simp; omega) HB1.out.size l rfl ?_; intro a2 c2 w2 hO2 hG2; have HO2 := Lib.hid hO2; have HB2 := Lib.hid (HB1.out.grown hG2 HB1.out.size (fun j e => (HO.out.lt j e).1)); clear hO2 hG2)
          go_roundw
          case rel =>
            have hp := HP.out
            rw [hp] at HO2 ⊢
            exact .inr (.inl ⟨_, _, by go_num, rfl, HO2, HB2⟩)
          case measure => simp [intOf]
        · have HO2 := Lib.hid hO2.out
          have HB2 := Lib.hid hb2.out
          clear hO2 hb2 y0 y1 HO HB1
          obtain ⟨y0, y1⟩ : wr.cell? ⟨g, 0, none⟩ = some (.slice a p c) ∧ wr.cell? ⟨g, 1, none⟩ = some (.slice b q d) := by
            have hq := HB2.out.block g hglt
            have hg := hq.trans HG.out
            rw [HP.out, HQ.out] at hg
            simp [World.cell?, hg]
          go_wp2_with (at_builtin; refine NK.wpList_append_owned rfl _ _ rfl w.heap.size (.slice a2 p c2) rfl l HO2.out b q d rfl k HQ.out.symm (HB.out.below HB2.out) (by have := HP.out; have := HQ.out; omega) HB2.out.size L HL.out ?_; intro a3 c3 w3 hO3 hG3; have HO3 := Lib.hid hO3; have HB3 := Lib.hid (HB2.out.grown hG3 HB2.out.size (fun j e => (HO2.out.lt j e).1)); clear hO3 hG3)
          go_roundw
          case rel => exact .inr (.inr ⟨_, _, by go_num, rfl, HO3, HB3⟩)
          case measure => simp [intOf]
        · have HO2 := Lib.hid hO2.out
          have HB2 := Lib.hid hb2.out
          clear hO2 hb2 y0 y1 HO HB1
          go_wp2_with fail
          go_ret
          exact ⟨_, _, rfl, HO2.out, HB2.out⟩

set_option maxHeartbeats 4000000 in
set_option maxRecDepth 1000000 in
theorem with_mark (l k : List Nk) (L : List Nk) (hL : L = l ++ k) (hlen : l.length + k.length ≤ 4000000) (a b : Option Addr) (c d : Nat) (w : World) (hA : NK.RowC w a c l) (hB : NK.RowC w b d k) :
    Calls Tryz.prog 83 #[.slice a l.length c, .slice b k.length d] w fun e w' => ∃ a' c', e = .returned (.slice a' L.length c') ∧ NK.Own w' w.heap.size (.slice a' L.length c') L ∧ Below w.heap.size w w' := by
  have hb := below1 w (.cells #[.slice a l.length c, .slice b k.length d] 30)
  have HC := Lib.hid (concat_mark l k L hL hlen a b c d w.heap.size (w.alloc (.cells #[.slice a l.length c, .slice b k.length d] 30)) (hA.below hb) (hB.below hb) (laid1 w _))
  have HB1 := Lib.hid hb
  clear hA hB hL hb
  go_enter Tryz.func83, Tryz.ntmps83
  go_wp2_with fail
  with_reducible refine HC.out.mono ?_
  rintro e w' ⟨a', c', rfl, hO, hb⟩
  have HO := Lib.hid (hO.mono (b2 := w.heap.size) (by simp))
  have HB2 := Lib.hid (HB1.out.trans (hb.mono (by simp)))
  clear hO hb HC
  go_wp2_with fail
  go_ret
  exact ⟨_, _, rfl, HO.out, HB2.out⟩
end Go.Proofs.YtciohjgcndgiaaaGreatDoor

set_option linter.unusedSimpArgs false
set_option linter.unusedVariables false
namespace Go.Proofs.YtciohjgcndgiaaaGreatDoor
open Go.RowKit Go.Proofs.YtciohjgcndgiaaaGreatDoor.Kind

theorem SK.fourteen {w : World} {b o : Nat} {l : List Sk} (h : SK.At w b o l) {j : Nat} {x : Sk} (hx : l[j]? = some x) :
    (w.cell? ⟨b, o + j * 14, none⟩ = some (.int .i8 x.ad.f) ∧ w.cell? ⟨b, o + j * 14 + 1, none⟩ = some (.int .u16 x.ad.g0) ∧ w.cell? ⟨b, o + j * 14 + 2, none⟩ = some (.int .u16 x.ad.g1) ∧ w.cell? ⟨b, o + j * 14 + 3, none⟩ = some (.int .u16 x.ad.g2) ∧ w.cell? ⟨b, o + j * 14 + 4, none⟩ = some (.int .u16 x.ad.g3) ∧
    w.cell? ⟨b, o + j * 14 + 5, none⟩ = some (.int .u16 x.ad.g4) ∧ w.cell? ⟨b, o + j * 14 + 6, none⟩ = some (.int .u16 x.ad.g5)) ∧ (w.cell? ⟨b, o + j * 14 + 7, none⟩ = some (.int .u16 x.ad.g6) ∧ w.cell? ⟨b, o + j * 14 + 8, none⟩ = some (.int .u16 x.ad.g7) ∧ w.cell? ⟨b, o + j * 14 + 9, none⟩ = some (.int .i64 x.ad.p) ∧
    w.cell? ⟨b, o + j * 14 + 10, none⟩ = some (.int .i64 x.by_) ∧ w.cell? ⟨b, o + j * 14 + 11, none⟩ = some (.int .i64 x.opened) ∧ w.cell? ⟨b, o + j * 14 + 12, none⟩ = some (.int .i64 x.shut) ∧ w.cell? ⟨b, o + j * 14 + 13, none⟩ = some (.bool x.dead)) :=
  ⟨⟨h j x hx 0 _ rfl, h j x hx 1 _ rfl, h j x hx 2 _ rfl, h j x hx 3 _ rfl, h j x hx 4 _ rfl, h j x hx 5 _ rfl, h j x hx 6 _ rfl⟩, h j x hx 7 _ rfl, h j x hx 8 _ rfl, h j x hx 9 _ rfl, h j x hx 10 _ rfl, h j x hx 11 _ rfl, h j x hx 12 _ rfl, h j x hx 13 _ rfl⟩
namespace Kind
variable {α : Type} {Pr : Program} {K : Kind Pr α}
theorem Loose.poke {w : World} {base : Nat} {a : Option Addr} {c : Nat} {l : List α} (h : K.Loose w base a c l) {k i : Nat} {x y : α} {v : Value} (hx : l[k]? = some x) (hi : i < K.k) (hy : K.enc y = (K.enc x).set i v) :
    ∃ g o, a = some ⟨g, o, none⟩ ∧ base ≤ g ∧ g < w.heap.size ∧ K.Loose (w.setCell ⟨g, o + k * K.k + i, none⟩ v) base a c (l.set k y) ∧ w.cell? ⟨g, o + k * K.k + i, none⟩ = (K.enc x)[i]? ∧ w.frozen? ⟨g, o + k * K.k + i, none⟩ = false := by
  have hk : k < l.length := (List.getElem?_eq_some_iff.1 hx).1
  have hc := h.1
  obtain ⟨g, o, rfl, h2, h3, h4, h5⟩ := h.2.2.2 (by omega)
  obtain ⟨u, hu⟩ : ∃ u, (K.enc x)[i]? = some u := ⟨_, List.getElem?_eq_getElem (by rw [K.hk]; exact hi)⟩
  have hcell := h5 k x hx i u hu
  have hin : k * K.k + i < c * K.k := by
    have := Nat.mul_le_mul_right K.k (show k + 1 ≤ c by omega)
    rw [Nat.add_mul] at this
    omega
  refine ⟨g, o, rfl, h2, h3, ⟨by simpa using h.1, h.2.1, h.2.2.1, fun _ => ⟨g, o, rfl, h2, by simpa using h3, fun j hj => ⟨?_, ?_⟩, ?_⟩⟩, by rw [hcell, hu], ?_⟩
  · by_cases e : j = k * K.k + i
    · subst e
      rw [← Nat.add_assoc, World.cell?_setCell_same _ _ _ hcell]
      rfl
    · rw [World.cell?_setCell_other _ _ _ _ (by intro e2; injection e2 with e3 e4 e5; omega)]
      exact (h4 j hj).1
  · rw [World.frozen?_setCell]
    exact (h4 j hj).2
  · intro j z hz i' u' hu'
    have hi' : i' < K.k := by have := (List.getElem?_eq_some_iff.1 hu').1; rwa [K.hk] at this
    rw [List.getElem?_set] at hz
    by_cases hjk : k = j
    · subst hjk
      rw [if_pos rfl, if_pos hk] at hz
      simp at hz
      subst hz
      rw [hy, List.getElem?_set] at hu'
      by_cases hii : i = i'
      · subst hii
        rw [if_pos rfl, K.hk, if_pos hi] at hu'
        rw [World.cell?_setCell_same _ _ _ hcell]
        exact hu'
      · rw [if_neg hii] at hu'
        rw [World.cell?_setCell_other _ _ _ _ (by intro e2; injection e2 with e3 e4 e5; omega)]
        exact h5 k x hx i' u' hu'
    · rw [if_neg hjk] at hz
      have hne := slot_ne hi hi' (fun e => hjk e.symm)
      rw [World.cell?_setCell_other _ _ _ _ (by intro e2; injection e2 with e3 e4 e5; omega)]
      exact h5 j z hz i' u' hu'
  · have := (h4 _ hin).2
    rwa [← Nat.add_assoc] at this
theorem Loose.mono {w : World} {base b2 : Nat} {a : Option Addr} {c : Nat} {l : List α} (h : K.Loose w base a c l) (hb : b2 ≤ base) : K.Loose w b2 a c l := ⟨h.1, h.2.1, h.2.2.1, fun hc => by
  obtain ⟨g, o, h1, h2, h3⟩ := h.2.2.2 hc
  exact ⟨g, o, h1, by omega, h3⟩⟩
end Kind

def SOpenSpec : Prop := ∀ (S : List Sk) (M : List Nk) (ad : Ad) (y t : Int) (a b : Option Addr) (c d : Nat) (w : World) (L : List Sk) (K : List Nk), S.length ≤ 400 → M.length ≤ 800 → L = S ++ [skNew ad y t] → K = M ++ [⟨false, S.length, t⟩] → SK.RowC w a c S → NK.RowC w b d M →
  Calls Tryz.prog 69 #[.slice a S.length c, .slice b M.length d, .agg #[.int .i8 ad.f, .int .u16 ad.g0, .int .u16 ad.g1, .int .u16 ad.g2, .int .u16 ad.g3, .int .u16 ad.g4, .int .u16 ad.g5, .int .u16 ad.g6, .int .u16 ad.g7, .int .i64 ad.p], .int .i64 y, .int .i64 t] w fun e w' =>
    ∃ a1 c1 a2 c2, e = .returned (.tuple #[.slice a1 L.length c1, .slice a2 K.length c2, .int .i64 S.length]) ∧ SK.Loose w' w.heap.size a1 c1 L ∧ NK.Loose w' w.heap.size a2 c2 K ∧ Below w.heap.size w w'
set_option maxHeartbeats 4000000 in
set_option maxRecDepth 1000000 in
theorem sopen_spec : SOpenSpec := by
  intro S M ad y t a b c d w L K hS hM hL hK hA hB
  have HW := Lib.hid (with_sock S [skNew ad y t] L hL (by simp; omega) a (some ⟨w.heap.size + 1, 0, none⟩) c 1 ((w.alloc (.cells #[.int .i8 ad.f, .int .u16 ad.g0, .int .u16 ad.g1, .int .u16 ad.g2, .int .u16 ad.g3, .int .u16 ad.g4, .int .u16 ad.g5, .int .u16 ad.g6, .int .u16 ad.g7, .int .i64 ad.p] 59)).alloc (.cells #[.int .i8 ad.f, .int .u16 ad.g0, .int .u16 ad.g1, .int .u16 ad.g2, .int .u16 ad.g3, .int .u16 ad.g4, .int .u16 ad.g5, .int .u16 ad.g6, .int .u16 ad.g7, .int .i64 ad.p, .int .i64 y, .int .i64 t, .int .i64 0, .bool false] 104)) (hA.below (below2 w _ _)) (rowC_at (K := SK) _ 104 [skNew ad y t] _ (w.heap.size + 1) 1 (by simp) rfl rfl (by simp)))
  have HM := Lib.hid (fun W (hb : Below w.heap.size w W) => with_mark M [⟨false, S.length, t⟩] K hK (by simp; omega) b (some ⟨W.heap.size, 0, none⟩) d 1 (W.alloc (.cells #[.bool false, .int .i64 S.length, .int .i64 t] 109)) ((hB.below hb).below (below1 W _)) (rowC_at (K := NK) _ 109 [⟨false, S.length, t⟩] _ W.heap.size 1 rfl rfl rfl (by simp)))
  have HB0 := Lib.hid (below2 w (.cells #[.int .i8 ad.f, .int .u16 ad.g0, .int .u16 ad.g1, .int .u16 ad.g2, .int .u16 ad.g3, .int .u16 ad.g4, .int .u16 ad.g5, .int .u16 ad.g6, .int .u16 ad.g7, .int .i64 ad.p] 59) (.cells #[.int .i8 ad.f, .int .u16 ad.g0, .int .u16 ad.g1, .int .u16 ad.g2, .int .u16 ad.g3, .int .u16 ad.g4, .int .u16 ad.g5, .int .u16 ad.g6, .int .u16 ad.g7, .int .i64 ad.p, .int .i64 y, .int .i64 t, .int .i64 0, .bool false] 104))
  simp only [List.length_cons, List.length_nil, Nat.zero_add] at HW HM
  clear hA hB hL hK hS hM
  go_enter Tryz.func69, Tryz.ntmps69
  go_wp2_with fail
  with_reducible refine HW.out.mono ?_
  rintro e w1 ⟨a1, c1, rfl, hO, hb⟩
  have HB1 := Lib.hid (HB0.out.trans (hb.mono HB0.out.size))
  have HO1 := Lib.hid (hO.loose.mono (b2 := w.heap.size) HB0.out.size)
  have HX := Lib.hid (HM.out w1 HB1.out)
  have HQ := Lib.hid (below1 w1 (.cells #[.bool false, .int .i64 S.length, .int .i64 t] 109))
  clear hO hb HW HM HB0
  go_wp2_with fail
  with_reducible refine HX.out.mono ?_
  rintro e w2 ⟨a2, c2, rfl, hO, hb⟩
  have hq := HQ.out.trans (hb.mono (by simp))
  have HO2 := Lib.hid (hO.loose.mono (b2 := w.heap.size) (by have := HB1.out.size; simp; omega))
  have HO3 := Lib.hid (HO1.out.below hq)
  have HB2 := Lib.hid (HB1.out.trans (hq.mono HB1.out.size))
  clear hO hb hq HX HQ HO1 HB1
  go_wp2_with fail
  go_ret3
  exact ⟨_, _, _, _, rfl, HO3.out, HO2.out, HB2.out⟩

end Go.Proofs.YtciohjgcndgiaaaGreatDoor

