/- Less: by family, by groups, by port. -/
import Derived.Test.YtbejnnkdgcelmaaGreatDoorIn
import Derived.Deep.RegionHeld3
import Derived.Shelf.SlSortCmp.NoneTotal
set_option linter.unusedSimpArgs false
set_option linter.unusedVariables false
namespace Go.Proofs.YtbejnnkdgcelmaaGreatDoor
open Go.RowKit
open Go.Sort (grow)

set_option maxHeartbeats 1000000 in
theorem nan8 (x : Int) (w : World) : Calls Tryz.prog 51 #[.int .i8 x] w fun e w' => e = .returned (.bool false) ∧ w' = w := by
  go_enter Tryz.func51, Tryz.ntmps51
  go_wp2_with fail
  go_ret
  exact ⟨by simp, rfl⟩
set_option maxHeartbeats 1000000 in
theorem nan16 (x : Int) (w : World) : Calls Tryz.prog 67 #[.int .u16 x] w fun e w' => e = .returned (.bool false) ∧ w' = w := by
  go_enter Tryz.func67, Tryz.ntmps67
  go_wp2_with fail
  go_ret
  exact ⟨by simp, rfl⟩
theorem cmp_lt (x y : Int) (h : x < y) : Lib.compareInt x y = -1 := by unfold Lib.compareInt; rw [if_pos h]
theorem cmp_gt (x y : Int) (h : y < x) : Lib.compareInt x y = 1 := by unfold Lib.compareInt; rw [if_neg (by omega), if_pos (by omega)]
theorem cmp_eq (x y : Int) (h : x = y) : Lib.compareInt x y = 0 := by unfold Lib.compareInt; rw [if_neg (by omega), if_neg (by omega)]
set_option maxHeartbeats 2000000 in
theorem cmp8 (x y : Int) (w : World) : Calls Tryz.prog 34 #[.int .i8 x, .int .i8 y] w fun e w' => e = .returned (.int .i64 (Lib.compareInt x y)) ∧ w' = w := by
  rcases (show x < y ∨ y < x ∨ x = y by omega) with h | h | h
  case' inl => have HV := Lib.hid (cmp_lt x y h)
  case' inr.inl => have HV := Lib.hid (cmp_gt x y h)
  case' inr.inr => have HV := Lib.hid (cmp_eq x y h)
  all_goals
    go_enter Tryz.func34, Tryz.ntmps34
    go_wp2_with (go_at_call 51; refine (nan8 _ _).mono ?_; rintro e w' ⟨rfl, rfl⟩)
    go_ret
    exact ⟨by rw [HV.out]; rfl, rfl⟩
set_option maxHeartbeats 2000000 in
theorem cmp16 (x y : Int) (w : World) : Calls Tryz.prog 52 #[.int .u16 x, .int .u16 y] w fun e w' => e = .returned (.int .i64 (Lib.compareInt x y)) ∧ w' = w := by
  rcases (show x < y ∨ y < x ∨ x = y by omega) with h | h | h
  case' inl => have HV := Lib.hid (cmp_lt x y h)
  case' inr.inl => have HV := Lib.hid (cmp_gt x y h)
  case' inr.inr => have HV := Lib.hid (cmp_eq x y h)
  all_goals
    go_enter Tryz.func52, Tryz.ntmps52
    go_wp2_with (go_at_call 67; refine (nan16 _ _).mono ?_; rintro e w' ⟨rfl, rfl⟩)
    go_ret
    exact ⟨by rw [HV.out]; rfl, rfl⟩

def orI : List Int → Int
  | [] => 0
  | x :: l => if x = 0 then orI l else x
def cmpL : List Int → List Int → Int
  | x :: l, y :: m => if Lib.compareInt x y = 0 then cmpL l m else Lib.compareInt x y
  | _, _ => 0
def cmpA (a b : Ad) : Int := orI [Lib.compareInt a.f b.f, cmpL a.gs b.gs, Lib.compareInt a.p b.p]
def lessP (a b : Ad) : Bool := decide (cmpA a b < 0)

set_option maxHeartbeats 2000000 in
theorem or_any (x y z : Int) (w : World) (b : Nat) (c0 : w.cell? ⟨b, 0, none⟩ = some (.int .i64 x)) (c1 : w.cell? ⟨b, 1, none⟩ = some (.int .i64 y)) (c2 : w.cell? ⟨b, 2, none⟩ = some (.int .i64 z)) :
    Calls Tryz.prog 33 #[.slice (some ⟨b, 0, none⟩) 3 3] w fun e w' => e = .returned (.int .i64 (orI [x, y, z])) ∧ w' = w := by
  go_enter Tryz.func33, Tryz.ntmps33
  go_wp2_with fail
  go_loop [8] (fun i => ∃ k : Nat, i = .int .i64 k ∧ (k = 0 ∨ k = 1 ∧ x = 0 ∨ k = 2 ∧ x = 0 ∧ y = 0 ∨ k = 3 ∧ x = 0 ∧ y = 0 ∧ z = 0)) (fun i => 3 - (intOf i).toNat)
  case atStart => exact ⟨0, rfl, by omega⟩
  case round =>
    obtain ⟨k, rfl, hk⟩ := hrel
    rcases hk with rfl | ⟨rfl, rfl⟩ | ⟨rfl, rfl, rfl⟩ | ⟨rfl, rfl, rfl, rfl⟩
    · by_cases h : x = 0
      · go_wp2_with fail
        go_round
        case rel => exact ⟨1, by go_num, by omega⟩
        case measure => simp [intOf]
      · have HV := Lib.hid (show orI [x, y, z] = x by simp [orI, h])
        have hb : (x != 0) = true := by simp [h]
        clear h
        go_wp2_with fail
        go_ret
        exact ⟨by rw [HV.out]; rfl, rfl⟩
    · by_cases h : y = 0
      · go_wp2_with fail
        go_round
        case rel => exact ⟨2, by go_num, by first | omega | simp_all⟩
        case measure => simp [intOf]
      · have HV := Lib.hid (show orI [0, y, z] = y by simp [orI, h])
        have hb : (y != 0) = true := by simp [h]
        clear h
        go_wp2_with fail
        go_ret
        exact ⟨by rw [HV.out]; rfl, rfl⟩
    · by_cases h : z = 0
      · go_wp2_with fail
        go_round
        case rel => exact ⟨3, by go_num, by first | omega | simp_all⟩
        case measure => simp [intOf]
      · have HV := Lib.hid (show orI [0, 0, z] = z by simp [orI, h])
        have hb : (z != 0) = true := by simp [h]
        clear h
        go_wp2_with fail
        go_ret
        exact ⟨by rw [HV.out]; rfl, rfl⟩
    · have HV := Lib.hid (show orI [0, 0, 0] = 0 by simp [orI])
      go_wp2_with fail
      go_ret
      exact ⟨by rw [HV.out]; rfl, rfl⟩

/-- Groups, as they lie, of whatever numbers. -/
def ZsAt (w : World) (b o : Nat) (gs : List Int) : Prop := ∀ (j : Nat) (g : Int), gs[j]? = some g → w.cell? ⟨b, o + j, none⟩ = some (.int .u16 g)
set_option maxHeartbeats 4000000 in
set_option maxRecDepth 1000000 in
theorem slicesCompare_any (l m : List Int) (hl : l.length = 8) (hm : m.length = 8) (b1 o1 c1 b2 o2 c2 : Nat) (w : World) (h1 : ZsAt w b1 o1 l) (h2 : ZsAt w b2 o2 m) :
    Calls Tryz.prog 35 #[.slice (some ⟨b1, o1, none⟩) 8 c1, .slice (some ⟨b2, o2, none⟩) 8 c2] w fun e w' => e = .returned (.int .i64 (cmpL l m)) ∧ w' = w := by
  have H1 := Lib.hid h1
  have H2 := Lib.hid h2
  have HL := Lib.hid hl
  have HM := Lib.hid hm
  clear h1 h2 hl hm
  go_enter Tryz.func35, Tryz.ntmps35
  go_wp2_with fail
  go_loop [11] (fun i => ∃ k : Nat, i = .int .i64 k ∧ k ≤ 8 ∧ Hid (cmpL (l.drop k) (m.drop k) = cmpL l m)) (fun i => 8 - (intOf i).toNat)
  case atStart => exact ⟨0, rfl, by omega, Lib.hid rfl⟩
  case round =>
    obtain ⟨k, rfl, hk, hc⟩ := hrel
    by_cases h8 : k < 8
    · obtain ⟨x, hx⟩ : ∃ x, l[k]? = some x := ⟨_, List.getElem?_eq_getElem (by rw [HL.out]; omega)⟩
      obtain ⟨y, hy⟩ : ∃ y, m[k]? = some y := ⟨_, List.getElem?_eq_getElem (by rw [HM.out]; omega)⟩
      have c1 := H1.out k x hx
      have c2 := H2.out k y hy
      have hD := hc.out
      rw [List.drop_eq_getElem_cons (show k < l.length by rw [HL.out]; omega), List.drop_eq_getElem_cons (show k < m.length by rw [HM.out]; omega), (List.getElem?_eq_some_iff.1 hx).2, (List.getElem?_eq_some_iff.1 hy).2] at hD
      have HC := Lib.hid (cmp16 x y w)
      obtain ⟨v, hv⟩ : ∃ v, Lib.compareInt x y = v := ⟨_, rfl⟩
      rw [cmpL, hv] at hD
      rw [hv] at HC
      clear hx hy hv hc
      by_cases h0 : v = 0
      · rw [if_pos h0] at hD
        have HD := Lib.hid hD
        subst h0
        clear hD
        go_wp2_with fail
        with_reducible refine HC.out.mono ?_
        rintro e w1 ⟨rfl, rfl⟩
        go_wp2_with fail
        go_round
        case rel => exact ⟨k + 1, by go_num, by omega, HD⟩
        case measure => simp [intOf]; omega
      · rw [if_neg h0] at hD
        have HD := Lib.hid hD
        have hb : (v != 0) = true := by simp [h0]
        clear hD h0
        go_wp2_with fail
        with_reducible refine HC.out.mono ?_
        rintro e w1 ⟨rfl, rfl⟩
        go_wp2_with fail
        go_ret
        exact ⟨by rw [← HD.out]; rfl, rfl⟩
    · obtain rfl : k = 8 := by omega
      have hD := hc.out
      rw [List.drop_eq_nil_of_le (by rw [HL.out]; omega), cmpL.eq_def] at hD
      have HD := Lib.hid hD
      clear hD hc
      go_wp2_with fail
      go_ret
      exact ⟨by rw [← HD.out]; rfl, rfl⟩

theorem zsAt_new (w : World) (b : Nat) (f g0 g1 g2 g3 g4 g5 g6 g7 p : Int) (h : A10 w b f g0 g1 g2 g3 g4 g5 g6 g7 p) : ZsAt w b 1 [g0, g1, g2, g3, g4, g5, g6, g7] := by
  intro j g hg
  have hj : j < 8 := by have := (List.getElem?_eq_some_iff.1 hg).1; simpa using this
  obtain ⟨c0, c1, c2, c3, c4, c5, c6, c7, c8, c9, fz⟩ := h
  rcases (show j = 0 ∨ j = 1 ∨ j = 2 ∨ j = 3 ∨ j = 4 ∨ j = 5 ∨ j = 6 ∨ j = 7 by omega) with rfl | rfl | rfl | rfl | rfl | rfl | rfl | rfl <;> (simp at hg; subst hg; assumption)
theorem a10_new (w : World) (f g0 g1 g2 g3 g4 g5 g6 g7 p : Int) (t : TypeId) : A10 (w.alloc (Obj.cells #[.int .i8 f, .int .u16 g0, .int .u16 g1, .int .u16 g2, .int .u16 g3, .int .u16 g4, .int .u16 g5, .int .u16 g6, .int .u16 g7, .int .i64 p] t)) w.heap.size f g0 g1 g2 g3 g4 g5 g6 g7 p := by
  constructor
  all_goals first | (rw [World.cell?_alloc_new]; rfl) | (intro j; exact World.frozen?_alloc_new _ _ _ _)

set_option maxHeartbeats 16000000 in
set_option maxRecDepth 1000000 in
theorem less_any (a b : Ad) (w : World) : Calls Tryz.prog 13 #[a.v, b.v] w fun e w' => e = .returned (.bool (lessP a b)) ∧ Below w.heap.size w w' ∧ ∃ q os, w' = grow (w.drewN q) os := by
  obtain ⟨f, g0, g1, g2, g3, g4, g5, g6, g7, p⟩ := a
  obtain ⟨f', k0, k1, k2, k3, k4, k5, k6, k7, p'⟩ := b
  simp only [Ad.v, Ad.enc]
  have HL := Lib.hid (show lessP ⟨f, g0, g1, g2, g3, g4, g5, g6, g7, p⟩ ⟨f', k0, k1, k2, k3, k4, k5, k6, k7, p'⟩ = decide (orI [Lib.compareInt f f', cmpL [g0, g1, g2, g3, g4, g5, g6, g7] [k0, k1, k2, k3, k4, k5, k6, k7], Lib.compareInt p p'] < 0) from rfl)
  have hA1 := a10_new w f g0 g1 g2 g3 g4 g5 g6 g7 p 26
  have hA1' := hA1.below ((Below.refl (w.heap.size + 1) (w.alloc (Obj.cells #[.int .i8 f, .int .u16 g0, .int .u16 g1, .int .u16 g2, .int .u16 g3, .int .u16 g4, .int .u16 g5, .int .u16 g6, .int .u16 g7, .int .i64 p] 26))).alloc (by simp) (Obj.cells #[.int .i8 f', .int .u16 k0, .int .u16 k1, .int .u16 k2, .int .u16 k3, .int .u16 k4, .int .u16 k5, .int .u16 k6, .int .u16 k7, .int .i64 p'] 26)) (by omega)
  have hB1 := a10_new (w.alloc (Obj.cells #[.int .i8 f, .int .u16 g0, .int .u16 g1, .int .u16 g2, .int .u16 g3, .int .u16 g4, .int .u16 g5, .int .u16 g6, .int .u16 g7, .int .i64 p] 26)) f' k0 k1 k2 k3 k4 k5 k6 k7 p' 26
  have hb : Below w.heap.size w ((w.alloc (Obj.cells #[.int .i8 f, .int .u16 g0, .int .u16 g1, .int .u16 g2, .int .u16 g3, .int .u16 g4, .int .u16 g5, .int .u16 g6, .int .u16 g7, .int .i64 p] 26)).alloc (Obj.cells #[.int .i8 f', .int .u16 k0, .int .u16 k1, .int .u16 k2, .int .u16 k3, .int .u16 k4, .int .u16 k5, .int .u16 k6, .int .u16 k7, .int .i64 p'] 26)) := ((Below.refl _ w).alloc (Nat.le_refl _) _).alloc (by simp) _
  rw [World.size_alloc] at hB1
  go_enter Tryz.func13, Tryz.ntmps13
  go_wp2_with fail
  generalize hW : (w.alloc (Obj.cells #[.int .i8 f, .int .u16 g0, .int .u16 g1, .int .u16 g2, .int .u16 g3, .int .u16 g4, .int .u16 g5, .int .u16 g6, .int .u16 g7, .int .i64 p] 26)).alloc (Obj.cells #[.int .i8 f', .int .u16 k0, .int .u16 k1, .int .u16 k2, .int .u16 k3, .int .u16 k4, .int .u16 k5, .int .u16 k6, .int .u16 k7, .int .i64 p'] 26) = W1 at *
  have hz : W1.heap.size = w.heap.size + 2 := by rw [← hW]; simp
  have hAd : A10 W1.drew w.heap.size f g0 g1 g2 g3 g4 g5 g6 g7 p := hA1'.below ((Below.refl W1.heap.size W1).drew) (by omega)
  have hBd : A10 W1.drew (w.heap.size + 1) f' k0 k1 k2 k3 k4 k5 k6 k7 p' := hB1.below ((Below.refl W1.heap.size W1).drew) (by omega)
  have hC8 := cmp8 f f' W1.drew
  have hCS := slicesCompare_any [g0, g1, g2, g3, g4, g5, g6, g7] [k0, k1, k2, k3, k4, k5, k6, k7] rfl rfl w.heap.size 1 8 (w.heap.size + 1) 1 8 W1.drew (zsAt_new _ _ _ _ _ _ _ _ _ _ _ _ hAd) (zsAt_new _ _ _ _ _ _ _ _ _ _ _ _ hBd)
  have hCI := Tryz.cmp_Compare_int p p' W1.drew
  have HC8 := Lib.hid hC8
  have HCS := Lib.hid hCS
  have HCI := Lib.hid hCI
  have HW := Lib.hid hW
  have HB := Lib.hid hb
  obtain ⟨c0, c1, c2, c3, c4, c5, c6, c7, c8, c9, fz⟩ := hA1'
  obtain ⟨d0, d1, d2, d3, d4, d5, d6, d7, d8, d9, dz⟩ := hB1
  clear hA1 hb hW hAd hBd hC8 hCS hCI
  have HO := fun x y z => Lib.hid (or_any x y z ((W1.alloc (Obj.cells #[.int .i64 x, .int .i64 y, .int .i64 z] 3)).drew) (w.heap.size + 2) (by rw [← hz]; show (W1.alloc _).cell? _ = _; rw [World.cell?_alloc_new]; rfl) (by rw [← hz]; show (W1.alloc _).cell? _ = _; rw [World.cell?_alloc_new]; rfl) (by rw [← hz]; show (W1.alloc _).cell? _ = _; rw [World.cell?_alloc_new]; rfl))
  generalize Lib.compareInt f f' = r1 at *
  generalize cmpL [g0, g1, g2, g3, g4, g5, g6, g7] [k0, k1, k2, k3, k4, k5, k6, k7] = r2 at *
  generalize Lib.compareInt p p' = r3 at *
  have HOR := HO r1 r2 r3
  clear HO
  generalize orI [r1, r2, r3] = o at *
  clear c1 c2 c3 c4 c5 c6 c7 c8 d1 d2 d3 d4 d5 d6 d7 d8 fz dz
  go_region_held3 (fun w' => w'.cell? ⟨w.heap.size, 0, none⟩ = some (.int .i8 f) ∧ w'.cell? ⟨w.heap.size, 9, none⟩ = some (.int .i64 p) ∧ w'.cell? ⟨w.heap.size + 1, 0, none⟩ = some (.int .i8 f') ∧ w'.cell? ⟨w.heap.size + 1, 9, none⟩ = some (.int .i64 p')) (go_keep) (first
    | (go_at_call 34; with_reducible refine HC8.out.mono ?_; rintro e w2 ⟨rfl, rfl⟩)
    | (go_at_call 35; with_reducible refine HCS.out.mono ?_; rintro e w2 ⟨rfl, rfl⟩)
    | (go_at_call 36; with_reducible refine HCI.out.mono ?_; rintro e w2 ⟨rfl, rfl⟩)
    | (go_at_call 33; with_reducible refine HOR.out.mono ?_; rintro e w2 ⟨rfl, rfl⟩))
  go_wp2_with fail
  go_ret
  refine ⟨by rw [HL.out]; rfl, ?_, ?_⟩
  · exact (HB.out.alloc HB.out.size (Obj.cells #[.int .i64 r1, .int .i64 r2, .int .i64 r3] 3)).drew
  · refine ⟨1, ?_⟩
    rw [← HW.out, Go.Sort.alloc_eq_grow, Go.Sort.alloc_eq_grow, Go.Sort.alloc_eq_grow, Go.Sort.grow_grow, Go.Sort.grow_grow]
    exact ⟨_, Go.Sort.drew_grow _ _⟩
end Go.Proofs.YtbejnnkdgcelmaaGreatDoor
