/- AddrOrder: less is an order, and a sorted row is in it. -/
import Derived.Test.YtbejnnkdgcelmaaGreatDoorSorted
import Derived.IntWalk
set_option linter.unusedSimpArgs false
set_option linter.unusedVariables false
namespace Go.Proofs.YtbejnnkdgcelmaaGreatDoor
open Go.RowKit

theorem count_take (l : List Ad) (k : Nat) (x y : Ad) (h : l[k]? = some y) : (l.take (k + 1)).count x = (l.take k).count x + (if y = x then 1 else 0) := by
  rw [List.take_add_one, h, List.count_append]
  congr 1
  by_cases e : y = x <;> simp [e, List.count_cons]

set_option maxHeartbeats 8000000 in
set_option maxRecDepth 1000000 in
theorem count_any (l : List Ad) (a : Option Addr) (c : Nat) (x : Ad) (w : World) (hl : l.length ≤ 100000) (hA : RowAt w a l) :
    Calls Tryz.prog 20 #[.slice a l.length c, x.v] w fun e w' => e = .returned (.int .i64 (l.count x)) ∧ Below w.heap.size w w' := by
  have HA := Lib.hid hA
  have HEq := Lib.hid eql_addr
  have HGD := Lib.hid guard_addr
  have HB := Lib.hid ((Below.refl w.heap.size w).alloc (Nat.le_refl _) (Obj.cells #[.int .i8 x.f, .int .u16 x.g0, .int .u16 x.g1, .int .u16 x.g2, .int .u16 x.g3, .int .u16 x.g4, .int .u16 x.g5, .int .u16 x.g6, .int .u16 x.g7, .int .i64 x.p] 26))
  have hX := a10_new w x.f x.g0 x.g1 x.g2 x.g3 x.g4 x.g5 x.g6 x.g7 x.p 26
  clear hA
  simp only [Ad.v, Ad.enc]
  go_enter Tryz.func20, Tryz.ntmps20
  go_wp2_with fail
  have hs1 : (w.alloc (Obj.cells #[.int .i8 x.f, .int .u16 x.g0, .int .u16 x.g1, .int .u16 x.g2, .int .u16 x.g3, .int .u16 x.g4, .int .u16 x.g5, .int .u16 x.g6, .int .u16 x.g7, .int .i64 x.p] 26)).heap.size = w.heap.size + 1 := by simp
  generalize w.alloc (Obj.cells #[.int .i8 x.f, .int .u16 x.g0, .int .u16 x.g1, .int .u16 x.g2, .int .u16 x.g3, .int .u16 x.g4, .int .u16 x.g5, .int .u16 x.g6, .int .u16 x.g7, .int .i64 x.p] 26) = W1 at *
  have HXX := Lib.hid hX
  clear hX
  go_loopw [5, 6] (fun u5 u6 wr => ∃ k q : Nat, u6 = .int .i64 k ∧ k ≤ l.length ∧ u5 = .int .i64 ((l.take k).count x : Nat) ∧ wr = W1.drewN q) (fun _ u6 _ => l.length - (intOf u6).toNat)
  case atStart => exact ⟨0, 0, rfl, by omega, rfl, rfl⟩
  case round =>
    obtain ⟨k, q, rfl, hk, rfl, rfl⟩ := hrel
    by_cases hlt : k < l.length
    · obtain ⟨b, o, rfl, hb, hat⟩ := (HA.out.below HB.out) (by omega)
      obtain ⟨y, hy⟩ : ∃ y, l[k]? = some y := ⟨_, List.getElem?_eq_getElem hlt⟩
      obtain ⟨d0, d1, d2, d3, d4, d5, d6, d7, d8, d9⟩ := hat.cells k y hy
      obtain ⟨c0, c1, c2, c3, c4, c5, c6, c7, c8, c9, cz⟩ := HXX.out
      have HT := Lib.hid (count_take l k x y hy)
      have hcl : (l.take k).count x ≤ k := by
        have h1 := List.count_le_length (a := x) (l := l.take k)
        rw [List.length_take] at h1
        omega
      have heq := HEq.out y x
      have hgd := HGD.out
      clear hy hat
      by_cases hyx : y = x
      · have hb : (y == x) = true := by simp [hyx]
        have HT2 := Lib.hid (show (l.take (k + 1)).count x = (l.take k).count x + 1 by rw [HT.out, if_pos hyx])
        rw [hb] at heq
        clear hyx hb
        go_wp2_with fail
        go_quiet (fail)
        go_wp2_with fail
        go_roundw
        case rel => exact ⟨k + 1, _, by go_num, by omega, by rw [HT2.out]; go_num, rfl⟩
        case measure => simp [intOf]; omega
      · have hb : (y == x) = false := by simp [hyx]
        have HT2 := Lib.hid (show (l.take (k + 1)).count x = (l.take k).count x by rw [HT.out, if_neg hyx]; rfl)
        rw [hb] at heq
        clear hyx hb
        go_wp2_with fail
        go_quiet (fail)
        go_wp2_with fail
        go_roundw
        case rel => exact ⟨k + 1, _, by go_num, by omega, by rw [HT2.out], rfl⟩
        case measure => simp [intOf]; omega
    · obtain rfl : k = l.length := by omega
      rw [List.take_length]
      go_wp2_with fail
      go_ret
      exact ⟨rfl, below_drewN HB.out q⟩

theorem xy_of {W : World} {m n : Nat} {x y : Ad} (h : A10 W m x.f x.g0 x.g1 x.g2 x.g3 x.g4 x.g5 x.g6 x.g7 x.p) (k : A10 W n y.f y.g0 y.g1 y.g2 y.g3 y.g4 y.g5 y.g6 y.g7 y.p) : W.cell? ⟨m, 0, none⟩ = some (.int .i8 x.f) ∧ W.cell? ⟨m, 1, none⟩ = some (.int .u16 x.g0) ∧ W.cell? ⟨m, 2, none⟩ = some (.int .u16 x.g1) ∧ W.cell? ⟨m, 3, none⟩ = some (.int .u16 x.g2) ∧ W.cell? ⟨m, 4, none⟩ = some (.int .u16 x.g3) ∧ W.cell? ⟨m, 5, none⟩ = some (.int .u16 x.g4) ∧ W.cell? ⟨m, 6, none⟩ = some (.int .u16 x.g5) ∧ W.cell? ⟨m, 7, none⟩ = some (.int .u16 x.g6) ∧ W.cell? ⟨m, 8, none⟩ = some (.int .u16 x.g7) ∧ W.cell? ⟨m, 9, none⟩ = some (.int .i64 x.p) ∧ W.cell? ⟨n, 0, none⟩ = some (.int .i8 y.f) ∧ W.cell? ⟨n, 1, none⟩ = some (.int .u16 y.g0) ∧ W.cell? ⟨n, 2, none⟩ = some (.int .u16 y.g1) ∧ W.cell? ⟨n, 3, none⟩ = some (.int .u16 y.g2) ∧ W.cell? ⟨n, 4, none⟩ = some (.int .u16 y.g3) ∧ W.cell? ⟨n, 5, none⟩ = some (.int .u16 y.g4) ∧ W.cell? ⟨n, 6, none⟩ = some (.int .u16 y.g5) ∧ W.cell? ⟨n, 7, none⟩ = some (.int .u16 y.g6) ∧ W.cell? ⟨n, 8, none⟩ = some (.int .u16 y.g7) ∧ W.cell? ⟨n, 9, none⟩ = some (.int .i64 y.p) :=
  ⟨h.c0, h.c1, h.c2, h.c3, h.c4, h.c5, h.c6, h.c7, h.c8, h.c9, k.c0, k.c1, k.c2, k.c3, k.c4, k.c5, k.c6, k.c7, k.c8, k.c9⟩
def b2i (b : Bool) : Int := if b then 1 else 0
def n3 (p q r : Bool) : Nat → Int
  | 0 => 0
  | 1 => b2i p
  | 2 => b2i p + b2i q
  | _ => b2i p + b2i q + b2i r
theorem three (x y : Ad) : b2i (lessP x y) + b2i (lessP y x) + b2i (x == y) = 1 := by
  by_cases e : x = y
  · subst e; rw [less_self]; simp [b2i]
  · have e2 : (x == y) = false := by simp [e]
    rw [e2]
    cases h1 : lessP x y with
    | true => rw [less_not x y h1]; rfl
    | false =>
      cases h2 : lessP y x with
      | true => rfl
      | false => exact absurd (less_total x y h1 h2) e

set_option maxHeartbeats 8000000 in
set_option maxRecDepth 1000000 in
theorem order_walk (x y z : Ad) (l : List Ad) (a : Option Addr) (c : Nat) (w : World) (hA : RowAt w a l) (hE : Env w) :
    Calls Tryz.prog 4 #[x.v, y.v, z.v, .slice a l.length c] w fun e w' => e = .returned (.bool true) ∧ Below w.heap.size w w' := by
  have HA := Lib.hid hA
  have HE := Lib.hid hE
  have HEq := Lib.hid eql_addr
  have HGD := Lib.hid guard_addr
  have HLs := Lib.hid less_any
  simp only [Ad.v, Ad.enc] at HLs ⊢
  have hb1 : Below w.heap.size w (((w.alloc (Obj.cells #[.int .i8 x.f, .int .u16 x.g0, .int .u16 x.g1, .int .u16 x.g2, .int .u16 x.g3, .int .u16 x.g4, .int .u16 x.g5, .int .u16 x.g6, .int .u16 x.g7, .int .i64 x.p] 26)).alloc (Obj.cells #[.int .i8 y.f, .int .u16 y.g0, .int .u16 y.g1, .int .u16 y.g2, .int .u16 y.g3, .int .u16 y.g4, .int .u16 y.g5, .int .u16 y.g6, .int .u16 y.g7, .int .i64 y.p] 26)).alloc (Obj.cells #[.int .i8 z.f, .int .u16 z.g0, .int .u16 z.g1, .int .u16 z.g2, .int .u16 z.g3, .int .u16 z.g4, .int .u16 z.g5, .int .u16 z.g6, .int .u16 z.g7, .int .i64 z.p] 26)) := (((Below.refl _ w).alloc (Nat.le_refl _) _).alloc (by simp) _).alloc (by simp; omega) _
  have hX1 : A10 (((w.alloc (Obj.cells #[.int .i8 x.f, .int .u16 x.g0, .int .u16 x.g1, .int .u16 x.g2, .int .u16 x.g3, .int .u16 x.g4, .int .u16 x.g5, .int .u16 x.g6, .int .u16 x.g7, .int .i64 x.p] 26)).alloc (Obj.cells #[.int .i8 y.f, .int .u16 y.g0, .int .u16 y.g1, .int .u16 y.g2, .int .u16 y.g3, .int .u16 y.g4, .int .u16 y.g5, .int .u16 y.g6, .int .u16 y.g7, .int .i64 y.p] 26)).alloc (Obj.cells #[.int .i8 z.f, .int .u16 z.g0, .int .u16 z.g1, .int .u16 z.g2, .int .u16 z.g3, .int .u16 z.g4, .int .u16 z.g5, .int .u16 z.g6, .int .u16 z.g7, .int .i64 z.p] 26)) w.heap.size x.f x.g0 x.g1 x.g2 x.g3 x.g4 x.g5 x.g6 x.g7 x.p := (a10_new w x.f x.g0 x.g1 x.g2 x.g3 x.g4 x.g5 x.g6 x.g7 x.p 26).below (((Below.refl (w.heap.size + 1) (w.alloc (Obj.cells #[.int .i8 x.f, .int .u16 x.g0, .int .u16 x.g1, .int .u16 x.g2, .int .u16 x.g3, .int .u16 x.g4, .int .u16 x.g5, .int .u16 x.g6, .int .u16 x.g7, .int .i64 x.p] 26))).alloc (by simp) _).alloc (by simp) _) (by omega)
  have hY1 : A10 (((w.alloc (Obj.cells #[.int .i8 x.f, .int .u16 x.g0, .int .u16 x.g1, .int .u16 x.g2, .int .u16 x.g3, .int .u16 x.g4, .int .u16 x.g5, .int .u16 x.g6, .int .u16 x.g7, .int .i64 x.p] 26)).alloc (Obj.cells #[.int .i8 y.f, .int .u16 y.g0, .int .u16 y.g1, .int .u16 y.g2, .int .u16 y.g3, .int .u16 y.g4, .int .u16 y.g5, .int .u16 y.g6, .int .u16 y.g7, .int .i64 y.p] 26)).alloc (Obj.cells #[.int .i8 z.f, .int .u16 z.g0, .int .u16 z.g1, .int .u16 z.g2, .int .u16 z.g3, .int .u16 z.g4, .int .u16 z.g5, .int .u16 z.g6, .int .u16 z.g7, .int .i64 z.p] 26)) (w.heap.size + 1) y.f y.g0 y.g1 y.g2 y.g3 y.g4 y.g5 y.g6 y.g7 y.p := by
    have h := (a10_new (w.alloc (Obj.cells #[.int .i8 x.f, .int .u16 x.g0, .int .u16 x.g1, .int .u16 x.g2, .int .u16 x.g3, .int .u16 x.g4, .int .u16 x.g5, .int .u16 x.g6, .int .u16 x.g7, .int .i64 x.p] 26)) y.f y.g0 y.g1 y.g2 y.g3 y.g4 y.g5 y.g6 y.g7 y.p 26).below ((Below.refl (w.heap.size + 2) ((w.alloc (Obj.cells #[.int .i8 x.f, .int .u16 x.g0, .int .u16 x.g1, .int .u16 x.g2, .int .u16 x.g3, .int .u16 x.g4, .int .u16 x.g5, .int .u16 x.g6, .int .u16 x.g7, .int .i64 x.p] 26)).alloc (Obj.cells #[.int .i8 y.f, .int .u16 y.g0, .int .u16 y.g1, .int .u16 y.g2, .int .u16 y.g3, .int .u16 y.g4, .int .u16 y.g5, .int .u16 y.g6, .int .u16 y.g7, .int .i64 y.p] 26))).alloc (by simp) (Obj.cells #[.int .i8 z.f, .int .u16 z.g0, .int .u16 z.g1, .int .u16 z.g2, .int .u16 z.g3, .int .u16 z.g4, .int .u16 z.g5, .int .u16 z.g6, .int .u16 z.g7, .int .i64 z.p] 26)) (by simp)
    rwa [World.size_alloc] at h
  have hZ1 : A10 (((w.alloc (Obj.cells #[.int .i8 x.f, .int .u16 x.g0, .int .u16 x.g1, .int .u16 x.g2, .int .u16 x.g3, .int .u16 x.g4, .int .u16 x.g5, .int .u16 x.g6, .int .u16 x.g7, .int .i64 x.p] 26)).alloc (Obj.cells #[.int .i8 y.f, .int .u16 y.g0, .int .u16 y.g1, .int .u16 y.g2, .int .u16 y.g3, .int .u16 y.g4, .int .u16 y.g5, .int .u16 y.g6, .int .u16 y.g7, .int .i64 y.p] 26)).alloc (Obj.cells #[.int .i8 z.f, .int .u16 z.g0, .int .u16 z.g1, .int .u16 z.g2, .int .u16 z.g3, .int .u16 z.g4, .int .u16 z.g5, .int .u16 z.g6, .int .u16 z.g7, .int .i64 z.p] 26)) (w.heap.size + 1 + 1) z.f z.g0 z.g1 z.g2 z.g3 z.g4 z.g5 z.g6 z.g7 z.p := by
    have h := a10_new ((w.alloc (Obj.cells #[.int .i8 x.f, .int .u16 x.g0, .int .u16 x.g1, .int .u16 x.g2, .int .u16 x.g3, .int .u16 x.g4, .int .u16 x.g5, .int .u16 x.g6, .int .u16 x.g7, .int .i64 x.p] 26)).alloc (Obj.cells #[.int .i8 y.f, .int .u16 y.g0, .int .u16 y.g1, .int .u16 y.g2, .int .u16 y.g3, .int .u16 y.g4, .int .u16 y.g5, .int .u16 y.g6, .int .u16 y.g7, .int .i64 y.p] 26)) z.f z.g0 z.g1 z.g2 z.g3 z.g4 z.g5 z.g6 z.g7 z.p 26
    rwa [World.size_alloc, World.size_alloc] at h
  have hs1 : (((w.alloc (Obj.cells #[.int .i8 x.f, .int .u16 x.g0, .int .u16 x.g1, .int .u16 x.g2, .int .u16 x.g3, .int .u16 x.g4, .int .u16 x.g5, .int .u16 x.g6, .int .u16 x.g7, .int .i64 x.p] 26)).alloc (Obj.cells #[.int .i8 y.f, .int .u16 y.g0, .int .u16 y.g1, .int .u16 y.g2, .int .u16 y.g3, .int .u16 y.g4, .int .u16 y.g5, .int .u16 y.g6, .int .u16 y.g7, .int .i64 y.p] 26)).alloc (Obj.cells #[.int .i8 z.f, .int .u16 z.g0, .int .u16 z.g1, .int .u16 z.g2, .int .u16 z.g3, .int .u16 z.g4, .int .u16 z.g5, .int .u16 z.g6, .int .u16 z.g7, .int .i64 z.p] 26)).heap.size = w.heap.size + 3 := by simp
  obtain ⟨W1, hW1⟩ : ∃ W, (((w.alloc (Obj.cells #[.int .i8 x.f, .int .u16 x.g0, .int .u16 x.g1, .int .u16 x.g2, .int .u16 x.g3, .int .u16 x.g4, .int .u16 x.g5, .int .u16 x.g6, .int .u16 x.g7, .int .i64 x.p] 26)).alloc (Obj.cells #[.int .i8 y.f, .int .u16 y.g0, .int .u16 y.g1, .int .u16 y.g2, .int .u16 y.g3, .int .u16 y.g4, .int .u16 y.g5, .int .u16 y.g6, .int .u16 y.g7, .int .i64 y.p] 26)).alloc (Obj.cells #[.int .i8 z.f, .int .u16 z.g0, .int .u16 z.g1, .int .u16 z.g2, .int .u16 z.g3, .int .u16 z.g4, .int .u16 z.g5, .int .u16 z.g6, .int .u16 z.g7, .int .i64 z.p] 26)) = W := ⟨_, rfl⟩
  rw [hW1] at hb1 hX1 hY1 hZ1 hs1
  have HW1 := Lib.hid hW1
  have HB1 := Lib.hid hb1
  have HX1 := Lib.hid hX1
  have HY1 := Lib.hid hY1
  have HZ1 := Lib.hid hZ1
  clear hA hE hb1 hX1 hY1 hZ1 hW1
  go_enter Tryz.func4, Tryz.ntmps4
  by_cases h40 : 40 < l.length
  · have HW := Lib.hid (wakes_any W1 (HE.out.below HB1.out))
    go_wp2_with fail
    rw [HW1.out]
    with_reducible refine HW.out.mono ?_
    rintro e w2 ⟨rfl, hb⟩
    go_wp2_with fail
    go_ret
    exact ⟨rfl, HB1.out.trans (hb.mono HB1.out.size)⟩
  · go_wp2_with fail
    rw [HW1.out]
    have hXd := HX1.out.below ((Below.refl W1.heap.size W1).drew) (by omega)
    have hYd := HY1.out.below ((Below.refl W1.heap.size W1).drew) (by omega)
    have hSd := xy_of hXd hYd
    have hds : W1.drew.heap.size = w.heap.size + 3 := hs1
    have HL1 := Lib.hid (HLs.out x y W1.drew)
    have HThree := Lib.hid (three x y)
    have heq := HEq.out x y
    have hgd := HGD.out
    have HXd := Lib.hid hXd
    have HYd := Lib.hid hYd
    clear hXd hYd
    have hm1 : w.heap.size < W1.drew.heap.size := by omega
    have hm2 : w.heap.size + 1 < W1.drew.heap.size := by omega
    obtain ⟨p1, hp1⟩ : ∃ p, lessP x y = p := ⟨_, rfl⟩
    rw [hp1] at HL1 HThree
    have HP1 := Lib.hid hp1
    clear hp1
    generalize (x == y) = p3 at *
    go_region_held3 (fun w' => w'.cell? ⟨w.heap.size, 0, none⟩ = some (.int .i8 x.f) ∧ w'.cell? ⟨w.heap.size, 1, none⟩ = some (.int .u16 x.g0) ∧ w'.cell? ⟨w.heap.size, 2, none⟩ = some (.int .u16 x.g1) ∧ w'.cell? ⟨w.heap.size, 3, none⟩ = some (.int .u16 x.g2) ∧ w'.cell? ⟨w.heap.size, 4, none⟩ = some (.int .u16 x.g3) ∧ w'.cell? ⟨w.heap.size, 5, none⟩ = some (.int .u16 x.g4) ∧ w'.cell? ⟨w.heap.size, 6, none⟩ = some (.int .u16 x.g5) ∧ w'.cell? ⟨w.heap.size, 7, none⟩ = some (.int .u16 x.g6) ∧ w'.cell? ⟨w.heap.size, 8, none⟩ = some (.int .u16 x.g7) ∧ w'.cell? ⟨w.heap.size, 9, none⟩ = some (.int .i64 x.p) ∧ w'.cell? ⟨(w.heap.size + 1), 0, none⟩ = some (.int .i8 y.f) ∧ w'.cell? ⟨(w.heap.size + 1), 1, none⟩ = some (.int .u16 y.g0) ∧ w'.cell? ⟨(w.heap.size + 1), 2, none⟩ = some (.int .u16 y.g1) ∧ w'.cell? ⟨(w.heap.size + 1), 3, none⟩ = some (.int .u16 y.g2) ∧ w'.cell? ⟨(w.heap.size + 1), 4, none⟩ = some (.int .u16 y.g3) ∧ w'.cell? ⟨(w.heap.size + 1), 5, none⟩ = some (.int .u16 y.g4) ∧ w'.cell? ⟨(w.heap.size + 1), 6, none⟩ = some (.int .u16 y.g5) ∧ w'.cell? ⟨(w.heap.size + 1), 7, none⟩ = some (.int .u16 y.g6) ∧ w'.cell? ⟨(w.heap.size + 1), 8, none⟩ = some (.int .u16 y.g7) ∧ w'.cell? ⟨(w.heap.size + 1), 9, none⟩ = some (.int .i64 y.p)) (first | assumption | go_keep) (first
      | (go_at_call 13; with_reducible refine HL1.out.mono ?_; rintro e w2 ⟨rfl, hb2, _⟩; have hX2 := Lib.hid (HXd.out.below hb2 hm1); have hY2 := Lib.hid (HYd.out.below hb2 hm2); have hs2 := hb2.size; have hS2 := xy_of hX2.out hY2.out; have HL2 := Lib.hid (HLs.out y x w2))
      | (go_at_call 13; with_reducible refine HL2.out.mono ?_; rintro e w3 ⟨rfl, hb3, _⟩; have hX3 := Lib.hid (hX2.out.below hb3 (by omega)); have hY3 := Lib.hid (hY2.out.below hb3 (by omega)); have hs3 := hb3.size; have hS3 := xy_of hX3.out hY3.out))
    rename_i hh
    clear hh hSd hS2 hS3 heq hgd HL1 HL2
    generalize lessP y x = p2 at *
    have HB4 := Lib.hid (show Below w.heap.size w (w3.alloc (Obj.cells #[.bool p1, .bool p2, .bool p3] 4)) from (HB1.out.drew.trans ((hb2.mono (by omega)).trans (hb3.mono (by omega)))).alloc (by omega) _)
    have HX4 := Lib.hid (hX3.out.below ((Below.refl w3.heap.size w3).alloc (Nat.le_refl _) (Obj.cells #[.bool p1, .bool p2, .bool p3] 4)) (by omega))
    have HY4 := Lib.hid (hY3.out.below ((Below.refl w3.heap.size w3).alloc (Nat.le_refl _) (Obj.cells #[.bool p1, .bool p2, .bool p3] 4)) (by omega))
    have hZ3 := (((HZ1.out.below ((Below.refl W1.heap.size W1).drew) (by omega)).below hb2 (by omega)).below hb3 (by omega)).below ((Below.refl w3.heap.size w3).alloc (Nat.le_refl _) (Obj.cells #[.bool p1, .bool p2, .bool p3] 4)) (by omega)
    have HZ4 := Lib.hid hZ3
    have k0 : (w3.alloc (Obj.cells #[.bool p1, .bool p2, .bool p3] 4)).cell? ⟨w3.heap.size, 0, none⟩ = some (.bool p1) := by rw [World.cell?_alloc_new]; rfl
    have k1 : (w3.alloc (Obj.cells #[.bool p1, .bool p2, .bool p3] 4)).cell? ⟨w3.heap.size, 1, none⟩ = some (.bool p2) := by rw [World.cell?_alloc_new]; rfl
    have k2 : (w3.alloc (Obj.cells #[.bool p1, .bool p2, .bool p3] 4)).cell? ⟨w3.heap.size, 2, none⟩ = some (.bool p3) := by rw [World.cell?_alloc_new]; rfl
    have hs4 : (w3.alloc (Obj.cells #[.bool p1, .bool p2, .bool p3] 4)).heap.size = w3.heap.size + 1 := by simp
    generalize w3.alloc (Obj.cells #[.bool p1, .bool p2, .bool p3] 4) = W4 at *
    clear hZ3 hX2 hY2 hX3 hY3 hb2 hb3 HXd HYd
    go_wp2_with fail
    go_loop [9, 29] (fun u9 u29 => ∃ (k : Nat) (m : Int), u29 = .int .i64 k ∧ u9 = .int .i64 m ∧ 0 ≤ m ∧ m ≤ k ∧ k ≤ 3 ∧ Hid (m = n3 p1 p2 p3 k)) (fun _ u29 => 3 - (intOf u29).toNat)
    case atStart => exact ⟨0, 0, rfl, rfl, by omega, by omega, by omega, Lib.hid rfl⟩
    case round =>
      obtain ⟨k, m, rfl, rfl, hm0, hmk, hk3, hm⟩ := hrel
      rcases (show k = 0 ∨ k = 1 ∨ k = 2 ∨ k = 3 by omega) with rfl | rfl | rfl | rfl
      · have HS := Lib.hid (show n3 p1 p2 p3 1 = m + b2i p1 by rw [hm.out]; simp [n3])
        cases p1
        all_goals
          go_wp2_with fail
          go_round
          case rel => exact ⟨1, _, by go_num, by go_num, by omega, by omega, by omega, Lib.hid (by rw [HS.out]; simp [b2i])⟩
          case measure => simp [intOf]
      · have HS := Lib.hid (show n3 p1 p2 p3 2 = m + b2i p2 by rw [hm.out]; simp [n3])
        cases p2
        all_goals
          go_wp2_with fail
          go_round
          case rel => exact ⟨2, _, by go_num, by go_num, by omega, by omega, by omega, Lib.hid (by rw [HS.out]; simp [b2i])⟩
          case measure => simp [intOf]
      · have HS := Lib.hid (show n3 p1 p2 p3 3 = m + b2i p3 by rw [hm.out]; simp [n3])
        cases p3
        all_goals
          go_wp2_with fail
          go_round
          case rel => exact ⟨3, _, by go_num, by go_num, by omega, by omega, by omega, Lib.hid (by rw [HS.out]; simp [b2i])⟩
          case measure => simp [intOf]
      · obtain rfl : m = 1 := by rw [hm.out]; exact HThree.out
        clear hm k0 k1 k2 hm0 hmk hk3 HThree
        have HL4 := Lib.hid (HLs.out x y W4)
        rw [HP1.out] at HL4
        have hsz4 : w.heap.size + 3 ≤ W4.heap.size := by omega
        clear hs1 hs2 hs3 hs4 hds hm1 hm2 HB1 HX1 HY1 HZ1 HW1
        obtain ⟨d0, d1, d2, d3, d4, d5, d6, d7, d8, d9, dz⟩ := HX4.out
        obtain ⟨e0, e1, e2, e3, e4, e5, e6, e7, e8, e9, ez⟩ := HY4.out
        cases p1 with
        | false =>
          go_wp2_with fail
          with_reducible refine HL4.out.mono ?_
          rintro e w5 ⟨rfl, hb5, _⟩
          have HBV := Lib.hid (HB4.out.trans (hb5.mono (by omega)))
          clear hb5 HL4 HX4 HY4 HZ4 HB4 d0 d1 d2 d3 d4 d5 d6 d7 d8 d9 dz e0 e1 e2 e3 e4 e5 e6 e7 e8 e9 ez
          go_wp2_with fail
          have HC := sorted_any l a c w5 (by omega) (HA.out.below HBV.out)
          with_reducible refine HC.mono ?_
          clear HC
          rintro e v1 ⟨a1, c1, rfl, hR, hv1⟩
          have HV1 := Lib.hid (HBV.out.trans (hv1.mono HBV.out.size))
          have HR := Lib.hid hR
          have hlb : (((l.length : Nat) : Int) != ((l.length : Nat) : Int)) = false := by simp
          clear hR hv1 HBV
          have hsl : (sortP l).length = l.length := sort_len l
          have HCt := Lib.hid (sort_count l)
          have HNx := Lib.hid (sort_next l)
          obtain ⟨r, hr⟩ : ∃ r, sortP l = r := ⟨_, rfl⟩
          rw [hr] at HR hsl HCt HNx
          clear hr
          have Hsl := Lib.hid hsl
          have HCn := Lib.hid count_any
          simp only [Ad.v, Ad.enc] at HCn
          have hlr : l.length ≤ r.length := by omega
          have hrl : r.length ≤ l.length := by omega
          clear hsl
          go_wp2_with fail
          go_loopw [13] (fun i wr => ∃ k : Nat, i = .int .i64 k ∧ k ≤ l.length ∧ Below v1.heap.size v1 wr) (fun i _ => l.length - (intOf i).toNat)
          case atStart => exact ⟨0, rfl, by omega, Below.refl _ _⟩
          case round =>
            obtain ⟨k, rfl, hk, hbw⟩ := hrel
            have HVr := Lib.hid (HV1.out.trans (hbw.mono HV1.out.size))
            by_cases hlt : k < l.length
            · have hRr := HR.out.below hbw
              obtain ⟨b, o, rfl, hb, hat⟩ := hRr (by omega)
              obtain ⟨x1, hx1⟩ : ∃ y, r[k]? = some y := ⟨_, List.getElem?_eq_getElem (by omega)⟩
              have HC1 : Hid (∀ W, Below wr.heap.size wr W → Calls Tryz.prog 20 #[.slice (some ⟨b, o, none⟩) l.length c1, .agg #[.int .i8 x1.f, .int .u16 x1.g0, .int .u16 x1.g1, .int .u16 x1.g2, .int .u16 x1.g3, .int .u16 x1.g4, .int .u16 x1.g5, .int .u16 x1.g6, .int .u16 x1.g7, .int .i64 x1.p]] W fun e w' => e = .returned (.int .i64 (l.count x1)) ∧ Below W.heap.size W w') := Lib.hid (fun W hW => by
                have h := HCn.out r (some ⟨b, o, none⟩) c1 x1 W (by omega) (RowAt.below hRr hW)
                rw [Hsl.out, HCt.out x1] at h
                exact h)
              have HC2 : Hid (∀ W, Below wr.heap.size wr W → Calls Tryz.prog 20 #[.slice a l.length c, .agg #[.int .i8 x1.f, .int .u16 x1.g0, .int .u16 x1.g1, .int .u16 x1.g2, .int .u16 x1.g3, .int .u16 x1.g4, .int .u16 x1.g5, .int .u16 x1.g6, .int .u16 x1.g7, .int .i64 x1.p]] W fun e w' => e = .returned (.int .i64 (l.count x1)) ∧ Below W.heap.size W w') := Lib.hid (fun W hW =>
                HCn.out l a c x1 W (by omega) (HA.out.below (HVr.out.trans (hW.mono HVr.out.size))))
              have HAt := Lib.hid hat
              have hcb : (((l.count x1 : Nat) : Int) != ((l.count x1 : Nat) : Int)) = false := by simp
              by_cases h0 : 0 < k
              · obtain ⟨j, rfl⟩ : ∃ j, k = j + 1 := ⟨k - 1, by omega⟩
                obtain ⟨x0, hx0⟩ : ∃ y, r[j]? = some y := ⟨_, List.getElem?_eq_getElem (by omega)⟩
                have HL9 := fun W => Lib.hid (HLs.out x1 x0 W)
                rw [HNx.out j x0 x1 hx0 hx1] at HL9
                have HK := Lib.hid (show ∀ W, Below wr.heap.size wr W → (W.cell? ⟨b, o + (j + 1) * 10, none⟩ = some (.int .i8 x1.f) ∧ W.cell? ⟨b, o + (j + 1) * 10 + 1, none⟩ = some (.int .u16 x1.g0) ∧ W.cell? ⟨b, o + (j + 1) * 10 + 2, none⟩ = some (.int .u16 x1.g1) ∧ W.cell? ⟨b, o + (j + 1) * 10 + 3, none⟩ = some (.int .u16 x1.g2) ∧ W.cell? ⟨b, o + (j + 1) * 10 + 4, none⟩ = some (.int .u16 x1.g3) ∧ W.cell? ⟨b, o + (j + 1) * 10 + 5, none⟩ = some (.int .u16 x1.g4) ∧ W.cell? ⟨b, o + (j + 1) * 10 + 6, none⟩ = some (.int .u16 x1.g5) ∧ W.cell? ⟨b, o + (j + 1) * 10 + 7, none⟩ = some (.int .u16 x1.g6) ∧ W.cell? ⟨b, o + (j + 1) * 10 + 8, none⟩ = some (.int .u16 x1.g7) ∧ W.cell? ⟨b, o + (j + 1) * 10 + 9, none⟩ = some (.int .i64 x1.p)) ∧ (W.cell? ⟨b, o + j * 10, none⟩ = some (.int .i8 x0.f) ∧ W.cell? ⟨b, o + j * 10 + 1, none⟩ = some (.int .u16 x0.g0) ∧ W.cell? ⟨b, o + j * 10 + 2, none⟩ = some (.int .u16 x0.g1) ∧ W.cell? ⟨b, o + j * 10 + 3, none⟩ = some (.int .u16 x0.g2) ∧ W.cell? ⟨b, o + j * 10 + 4, none⟩ = some (.int .u16 x0.g3) ∧ W.cell? ⟨b, o + j * 10 + 5, none⟩ = some (.int .u16 x0.g4) ∧ W.cell? ⟨b, o + j * 10 + 6, none⟩ = some (.int .u16 x0.g5) ∧ W.cell? ⟨b, o + j * 10 + 7, none⟩ = some (.int .u16 x0.g6) ∧ W.cell? ⟨b, o + j * 10 + 8, none⟩ = some (.int .u16 x0.g7) ∧ W.cell? ⟨b, o + j * 10 + 9, none⟩ = some (.int .i64 x0.p)) from fun W h => ⟨(HAt.out.below h hb).cells (j + 1) x1 hx1, (HAt.out.below h hb).cells j x0 hx0⟩)
                have hS1 := HK.out _ (Below.refl wr.heap.size wr)
                have hjn : (j : Int) + 1 < (l.length : Int) := by omega
                have hj0 : (0 : Int) ≤ (j : Int) + 1 := by omega
                have hjm : (j : Int) < (l.length : Int) := by omega
                have hw3 : IntKind.i64.wrap (j : Int) = (j : Int) := IntWalk.i64_in _ (by omega)
                have hw2 : IntKind.i64.wrap (((j + 1 : Nat) : Int) - 1) = (j : Int) := by rw [show ((j + 1 : Nat) : Int) - 1 = (j : Int) by omega]; exact IntWalk.i64_in _ (by omega)
                have hw1 : IntKind.i64.wrap ((j : Int) + 1 - 1) = (j : Int) := by rw [Int.add_sub_cancel]; exact IntWalk.i64_in _ (by omega)
                clear hat hx1 hx0 hRr
                have hW1 := Lib.hid ((Below.refl wr.heap.size wr).drew)
                go_wp2_with fail
                go_region_held3 (fun w' => (w'.cell? ⟨b, o + (j + 1) * 10, none⟩ = some (.int .i8 x1.f) ∧ w'.cell? ⟨b, o + (j + 1) * 10 + 1, none⟩ = some (.int .u16 x1.g0) ∧ w'.cell? ⟨b, o + (j + 1) * 10 + 2, none⟩ = some (.int .u16 x1.g1) ∧ w'.cell? ⟨b, o + (j + 1) * 10 + 3, none⟩ = some (.int .u16 x1.g2) ∧ w'.cell? ⟨b, o + (j + 1) * 10 + 4, none⟩ = some (.int .u16 x1.g3) ∧ w'.cell? ⟨b, o + (j + 1) * 10 + 5, none⟩ = some (.int .u16 x1.g4) ∧ w'.cell? ⟨b, o + (j + 1) * 10 + 6, none⟩ = some (.int .u16 x1.g5) ∧ w'.cell? ⟨b, o + (j + 1) * 10 + 7, none⟩ = some (.int .u16 x1.g6) ∧ w'.cell? ⟨b, o + (j + 1) * 10 + 8, none⟩ = some (.int .u16 x1.g7) ∧ w'.cell? ⟨b, o + (j + 1) * 10 + 9, none⟩ = some (.int .i64 x1.p)) ∧ (w'.cell? ⟨b, o + j * 10, none⟩ = some (.int .i8 x0.f) ∧ w'.cell? ⟨b, o + j * 10 + 1, none⟩ = some (.int .u16 x0.g0) ∧ w'.cell? ⟨b, o + j * 10 + 2, none⟩ = some (.int .u16 x0.g1) ∧ w'.cell? ⟨b, o + j * 10 + 3, none⟩ = some (.int .u16 x0.g2) ∧ w'.cell? ⟨b, o + j * 10 + 4, none⟩ = some (.int .u16 x0.g3) ∧ w'.cell? ⟨b, o + j * 10 + 5, none⟩ = some (.int .u16 x0.g4) ∧ w'.cell? ⟨b, o + j * 10 + 6, none⟩ = some (.int .u16 x0.g5) ∧ w'.cell? ⟨b, o + j * 10 + 7, none⟩ = some (.int .u16 x0.g6) ∧ w'.cell? ⟨b, o + j * 10 + 8, none⟩ = some (.int .u16 x0.g7) ∧ w'.cell? ⟨b, o + j * 10 + 9, none⟩ = some (.int .i64 x0.p))) (first | assumption | go_keep) (first
                  | (go_at_call 13; with_reducible refine (HL9 _).out.mono ?_; rintro e w2 ⟨rfl, hb2, _⟩; have hW2 := Lib.hid (hW1.out.trans (hb2.mono hW1.out.size)); have hS2 := HK.out _ hW2.out)
                  | (go_at_call 20; with_reducible refine (HC1.out _ hW2.out).mono ?_; rintro e w3 ⟨rfl, hb3⟩; have hW3 := Lib.hid (hW2.out.trans (hb3.mono hW2.out.size)); have hS3 := HK.out _ hW3.out)
                  | (go_at_call 20; with_reducible refine (HC2.out _ hW3.out).mono ?_; rintro e w4 ⟨rfl, hb4⟩; have hW4 := Lib.hid (hW3.out.trans (hb4.mono hW3.out.size)); have hS4 := HK.out _ hW4.out))
                go_wp2_with fail
                go_roundw
                case rel => exact ⟨j + 1 + 1, by go_num, by omega, hbw.trans (hW4.out.mono hbw.size)⟩
                case measure => simp [intOf]; omega
              · obtain rfl : k = 0 := by omega
                have HK := Lib.hid (show ∀ W, Below wr.heap.size wr W → W.cell? ⟨b, o, none⟩ = some (.int .i8 x1.f) ∧ W.cell? ⟨b, o + 1, none⟩ = some (.int .u16 x1.g0) ∧ W.cell? ⟨b, o + 2, none⟩ = some (.int .u16 x1.g1) ∧ W.cell? ⟨b, o + 3, none⟩ = some (.int .u16 x1.g2) ∧ W.cell? ⟨b, o + 4, none⟩ = some (.int .u16 x1.g3) ∧ W.cell? ⟨b, o + 5, none⟩ = some (.int .u16 x1.g4) ∧ W.cell? ⟨b, o + 6, none⟩ = some (.int .u16 x1.g5) ∧ W.cell? ⟨b, o + 7, none⟩ = some (.int .u16 x1.g6) ∧ W.cell? ⟨b, o + 8, none⟩ = some (.int .u16 x1.g7) ∧ W.cell? ⟨b, o + 9, none⟩ = some (.int .i64 x1.p) from fun W h => by have := (HAt.out.below h hb).cells 0 x1 hx1; simpa only [Nat.zero_mul, Nat.add_zero] using this)
                have hS1 := HK.out _ (Below.refl wr.heap.size wr)
                have hpos : (0:Int) < (l.length : Int) := by omega
                rw [show ((0 : Nat) : Int) = 0 from rfl]
                clear hat hx1 hRr
                have hW1 := Lib.hid ((Below.refl wr.heap.size wr).drew)
                go_wp2_with fail
                refine wp_region_held_drew (S := fun w' => w'.cell? ⟨b, o, none⟩ = some (.int .i8 x1.f) ∧ w'.cell? ⟨b, o + 1, none⟩ = some (.int .u16 x1.g0) ∧ w'.cell? ⟨b, o + 2, none⟩ = some (.int .u16 x1.g1) ∧ w'.cell? ⟨b, o + 3, none⟩ = some (.int .u16 x1.g2) ∧ w'.cell? ⟨b, o + 4, none⟩ = some (.int .u16 x1.g3) ∧ w'.cell? ⟨b, o + 5, none⟩ = some (.int .u16 x1.g4) ∧ w'.cell? ⟨b, o + 6, none⟩ = some (.int .u16 x1.g5) ∧ w'.cell? ⟨b, o + 7, none⟩ = some (.int .u16 x1.g6) ∧ w'.cell? ⟨b, o + 8, none⟩ = some (.int .u16 x1.g7) ∧ w'.cell? ⟨b, o + 9, none⟩ = some (.int .i64 x1.p)) (by kernel_rfl) ?_ (fun hHeld => ?_)
                · (first | assumption | go_keep)
                refine wpAnyH_take (i := 0) (oi := ({ dst := some 68, op := Op.move (Operand.tmp 13), type := 3, pos := "law.go:95", after := #[], guard := none } : Oper)) (v := ?_) rfl (by kernel_rfl) (by kernel_rfl) (by kernel_rfl) (fun _ _ _ h => h) (Or.inl ⟨by rfl, ?_⟩) (by assumption) ?_
                rotate_left
                · (intro w hSw; (try dsimp only at hSw); go_simp; try with_reducible rfl)
                simp only [Act.put, List.setIfInBounds_toArray, List.set_cons_zero, List.set_cons_succ]
                refine wpAnyH_take (i := 1) (oi := ({ dst := some 69, op := Op.binOp BinOp.gtr 3 (Operand.tmp 68) (Operand.const (Value.int IntKind.i64 0)) 3, type := 4, pos := "law.go:95", after := #[{ on := 0, ground := Ground.data }], guard := none } : Oper)) (v := ?_) rfl (by kernel_rfl) (by kernel_rfl) (by kernel_rfl) (fun _ _ _ h => h) (Or.inl ⟨by rfl, ?_⟩) (by assumption) ?_
                rotate_left
                · (intro w hSw; (try dsimp only at hSw); go_simp; try with_reducible rfl)
                simp only [Act.put, List.setIfInBounds_toArray, List.set_cons_zero, List.set_cons_succ]
                refine wpAnyH_take (i := 2) (oi := ({ dst := some 70, op := Op.move (Operand.tmp 69), type := 4, pos := "law.go:95", after := #[{ on := 1, ground := Ground.data }], guard := none } : Oper)) (v := ?_) rfl (by kernel_rfl) (by kernel_rfl) (by kernel_rfl) (fun _ _ _ h => h) (Or.inl ⟨by rfl, ?_⟩) (by assumption) ?_
                rotate_left
                · (intro w hSw; (try dsimp only at hSw); go_simp; try with_reducible rfl)
                simp only [Act.put, List.setIfInBounds_toArray, List.set_cons_zero, List.set_cons_succ]
                refine wpAnyH_take (i := 3) (oi := ({ dst := some 71, op := Op.move (Operand.tmp 12), type := 27, pos := "law.go:95", after := #[{ on := 2, ground := Ground.guard }], guard := some (2, true) } : Oper)) (v := undef) rfl (by kernel_rfl) (by kernel_rfl) (by kernel_rfl) (fun _ _ _ h => h) (Or.inr ⟨by rfl, rfl⟩) (by assumption) ?_
                simp only [Act.put, List.setIfInBounds_toArray, List.set_cons_zero, List.set_cons_succ]
                refine wpAnyH_take (i := 4) (oi := ({ dst := some 72, op := Op.move (Operand.tmp 13), type := 3, pos := "law.go:95", after := #[{ on := 2, ground := Ground.guard }], guard := some (2, true) } : Oper)) (v := undef) rfl (by kernel_rfl) (by kernel_rfl) (by kernel_rfl) (fun _ _ _ h => h) (Or.inr ⟨by rfl, rfl⟩) (by assumption) ?_
                simp only [Act.put, List.setIfInBounds_toArray, List.set_cons_zero, List.set_cons_succ]
                refine wpAnyH_take (i := 5) (oi := ({ dst := some 73, op := Op.indexAddr 27 (Operand.tmp 71) (Operand.tmp 72), type := 0, pos := "law.go:95", after := #[{ on := 3, ground := Ground.data }, { on := 4, ground := Ground.data }, { on := 2, ground := Ground.guard }], guard := some (2, true) } : Oper)) (v := undef) rfl (by kernel_rfl) (by kernel_rfl) (by kernel_rfl) (fun _ _ _ h => h) (Or.inr ⟨by rfl, rfl⟩) (by assumption) ?_
                simp only [Act.put, List.setIfInBounds_toArray, List.set_cons_zero, List.set_cons_succ]
                refine wpAnyH_take (i := 6) (oi := ({ dst := some 74, op := Op.load 26 (Operand.tmp 73), type := 26, pos := "law.go:95", after := #[{ on := 5, ground := Ground.data }, { on := 2, ground := Ground.guard }], guard := some (2, true) } : Oper)) (v := undef) rfl (by kernel_rfl) (by kernel_rfl) (by kernel_rfl) (fun _ _ _ h => h) (Or.inr ⟨by rfl, rfl⟩) (by assumption) ?_
                simp only [Act.put, List.setIfInBounds_toArray, List.set_cons_zero, List.set_cons_succ]
                refine wpAnyH_take (i := 7) (oi := ({ dst := some 75, op := Op.move (Operand.tmp 12), type := 27, pos := "law.go:95", after := #[{ on := 2, ground := Ground.guard }], guard := some (2, true) } : Oper)) (v := undef) rfl (by kernel_rfl) (by kernel_rfl) (by kernel_rfl) (fun _ _ _ h => h) (Or.inr ⟨by rfl, rfl⟩) (by assumption) ?_
                simp only [Act.put, List.setIfInBounds_toArray, List.set_cons_zero, List.set_cons_succ]
                refine wpAnyH_take (i := 8) (oi := ({ dst := some 76, op := Op.move (Operand.tmp 13), type := 3, pos := "law.go:95", after := #[{ on := 2, ground := Ground.guard }], guard := some (2, true) } : Oper)) (v := undef) rfl (by kernel_rfl) (by kernel_rfl) (by kernel_rfl) (fun _ _ _ h => h) (Or.inr ⟨by rfl, rfl⟩) (by assumption) ?_
                simp only [Act.put, List.setIfInBounds_toArray, List.set_cons_zero, List.set_cons_succ]
                refine wpAnyH_take (i := 9) (oi := ({ dst := some 77, op := Op.binOp BinOp.sub 3 (Operand.tmp 76) (Operand.const (Value.int IntKind.i64 1)) 3, type := 3, pos := "law.go:95", after := #[{ on := 8, ground := Ground.data }, { on := 2, ground := Ground.guard }], guard := some (2, true) } : Oper)) (v := undef) rfl (by kernel_rfl) (by kernel_rfl) (by kernel_rfl) (fun _ _ _ h => h) (Or.inr ⟨by rfl, rfl⟩) (by assumption) ?_
                simp only [Act.put, List.setIfInBounds_toArray, List.set_cons_zero, List.set_cons_succ]
                refine wpAnyH_take (i := 10) (oi := ({ dst := some 78, op := Op.indexAddr 27 (Operand.tmp 75) (Operand.tmp 77), type := 0, pos := "law.go:95", after := #[{ on := 7, ground := Ground.data }, { on := 9, ground := Ground.data }, { on := 2, ground := Ground.guard }], guard := some (2, true) } : Oper)) (v := undef) rfl (by kernel_rfl) (by kernel_rfl) (by kernel_rfl) (fun _ _ _ h => h) (Or.inr ⟨by rfl, rfl⟩) (by assumption) ?_
                simp only [Act.put, List.setIfInBounds_toArray, List.set_cons_zero, List.set_cons_succ]
                refine wpAnyH_take (i := 11) (oi := ({ dst := some 79, op := Op.load 26 (Operand.tmp 78), type := 26, pos := "law.go:95", after := #[{ on := 10, ground := Ground.data }, { on := 2, ground := Ground.guard }], guard := some (2, true) } : Oper)) (v := undef) rfl (by kernel_rfl) (by kernel_rfl) (by kernel_rfl) (fun _ _ _ h => h) (Or.inr ⟨by rfl, rfl⟩) (by assumption) ?_
                simp only [Act.put, List.setIfInBounds_toArray, List.set_cons_zero, List.set_cons_succ]
                refine wpAnyH_take (i := 12) (oi := ({ dst := some 80, op := Op.call { callee := Callee.value (Operand.func 13), args := #[Operand.tmp 74, Operand.tmp 79], argTypes := #[26, 26] }, type := 4, pos := "law.go:95", after := #[{ on := 6, ground := Ground.data }, { on := 11, ground := Ground.data }, { on := 2, ground := Ground.chain }, { on := 2, ground := Ground.guard }], guard := some (2, true) } : Oper)) (v := undef) rfl (by kernel_rfl) (by kernel_rfl) (by kernel_rfl) (fun _ _ _ h => h) (Or.inr ⟨by rfl, rfl⟩) (by assumption) ?_
                simp only [Act.put, List.setIfInBounds_toArray, List.set_cons_zero, List.set_cons_succ]
                refine wpAnyH_take (i := 13) (oi := ({ dst := some 81, op := Op.pick (Operand.tmp 70) (Operand.tmp 80) (Operand.const (Value.bool false)), type := 4, pos := "law.go:95", after := #[{ on := 2, ground := Ground.data }, { on := 12, ground := Ground.data }], guard := none } : Oper)) (v := ?_) rfl (by kernel_rfl) (by kernel_rfl) (by kernel_rfl) (fun _ _ _ h => h) (Or.inl ⟨by rfl, ?_⟩) (by assumption) ?_
                rotate_left
                · (intro w hSw; (try dsimp only at hSw); go_simp; try with_reducible rfl)
                simp only [Act.put, List.setIfInBounds_toArray, List.set_cons_zero, List.set_cons_succ]
                refine wpAnyH_take (i := 14) (oi := ({ dst := some 82, op := Op.move (Operand.tmp 81), type := 4, pos := "law.go:95", after := #[{ on := 13, ground := Ground.data }, { on := 12, ground := Ground.chain }], guard := none } : Oper)) (v := ?_) rfl (by kernel_rfl) (by kernel_rfl) (by kernel_rfl) (fun _ _ _ h => h) (Or.inl ⟨by rfl, ?_⟩) (by assumption) ?_
                rotate_left
                · (intro w hSw; (try dsimp only at hSw); go_simp; try with_reducible rfl)
                simp only [Act.put, List.setIfInBounds_toArray, List.set_cons_zero, List.set_cons_succ]
                refine wpAnyH_take (i := 15) (oi := ({ dst := some 83, op := Op.move (Operand.tmp 12), type := 27, pos := "law.go:95", after := #[{ on := 14, ground := Ground.guard }], guard := some (14, false) } : Oper)) (v := ?_) rfl (by kernel_rfl) (by kernel_rfl) (by kernel_rfl) (fun _ _ _ h => h) (Or.inl ⟨by rfl, ?_⟩) (by assumption) ?_
                rotate_left
                · (intro w hSw; (try dsimp only at hSw); go_simp; try with_reducible rfl)
                simp only [Act.put, List.setIfInBounds_toArray, List.set_cons_zero, List.set_cons_succ]
                refine wpAnyH_take (i := 16) (oi := ({ dst := some 84, op := Op.move (Operand.tmp 12), type := 27, pos := "law.go:95", after := #[{ on := 14, ground := Ground.guard }], guard := some (14, false) } : Oper)) (v := ?_) rfl (by kernel_rfl) (by kernel_rfl) (by kernel_rfl) (fun _ _ _ h => h) (Or.inl ⟨by rfl, ?_⟩) (by assumption) ?_
                rotate_left
                · (intro w hSw; (try dsimp only at hSw); go_simp; try with_reducible rfl)
                simp only [Act.put, List.setIfInBounds_toArray, List.set_cons_zero, List.set_cons_succ]
                refine wpAnyH_take (i := 17) (oi := ({ dst := some 85, op := Op.move (Operand.tmp 13), type := 3, pos := "law.go:95", after := #[{ on := 14, ground := Ground.guard }], guard := some (14, false) } : Oper)) (v := ?_) rfl (by kernel_rfl) (by kernel_rfl) (by kernel_rfl) (fun _ _ _ h => h) (Or.inl ⟨by rfl, ?_⟩) (by assumption) ?_
                rotate_left
                · (intro w hSw; (try dsimp only at hSw); go_simp; try with_reducible rfl)
                simp only [Act.put, List.setIfInBounds_toArray, List.set_cons_zero, List.set_cons_succ]
                refine wpAnyH_take (i := 18) (oi := ({ dst := some 86, op := Op.indexAddr 27 (Operand.tmp 84) (Operand.tmp 85), type := 0, pos := "law.go:95", after := #[{ on := 16, ground := Ground.data }, { on := 17, ground := Ground.data }, { on := 14, ground := Ground.guard }], guard := some (14, false) } : Oper)) (v := ?_) rfl (by kernel_rfl) (by kernel_rfl) (by kernel_rfl) (fun _ _ _ h => h) (Or.inl ⟨by rfl, ?_⟩) (by assumption) ?_
                rotate_left
                · (intro w hSw; (try dsimp only at hSw); go_simp; try with_reducible rfl)
                simp only [Act.put, List.setIfInBounds_toArray, List.set_cons_zero, List.set_cons_succ]
                refine wpAnyH_take (i := 19) (oi := ({ dst := some 87, op := Op.load 26 (Operand.tmp 86), type := 26, pos := "law.go:95", after := #[{ on := 18, ground := Ground.data }, { on := 14, ground := Ground.guard }], guard := some (14, false) } : Oper)) (v := ?_) rfl (by kernel_rfl) (by kernel_rfl) (by kernel_rfl) (fun _ _ _ h => h) (Or.inl ⟨by rfl, ?_⟩) (by assumption) ?_
                rotate_left
                · (intro w hSw; (try dsimp only at hSw); go_simp; try with_reducible rfl)
                simp only [Act.put, List.setIfInBounds_toArray, List.set_cons_zero, List.set_cons_succ]
                refine wpAnyH_take (i := 21) (oi := ({ dst := some 89, op := Op.move (Operand.tmp 3), type := 27, pos := "law.go:95", after := #[{ on := 14, ground := Ground.guard }], guard := some (14, false) } : Oper)) (v := ?_) rfl (by kernel_rfl) (by kernel_rfl) (by kernel_rfl) (fun _ _ _ h => h) (Or.inl ⟨by rfl, ?_⟩) (by assumption) ?_
                rotate_left
                · (intro w hSw; (try dsimp only at hSw); go_simp; try with_reducible rfl)
                simp only [Act.put, List.setIfInBounds_toArray, List.set_cons_zero, List.set_cons_succ]
                refine wpAnyH_take (i := 22) (oi := ({ dst := some 90, op := Op.move (Operand.tmp 12), type := 27, pos := "law.go:95", after := #[{ on := 14, ground := Ground.guard }], guard := some (14, false) } : Oper)) (v := ?_) rfl (by kernel_rfl) (by kernel_rfl) (by kernel_rfl) (fun _ _ _ h => h) (Or.inl ⟨by rfl, ?_⟩) (by assumption) ?_
                rotate_left
                · (intro w hSw; (try dsimp only at hSw); go_simp; try with_reducible rfl)
                simp only [Act.put, List.setIfInBounds_toArray, List.set_cons_zero, List.set_cons_succ]
                refine wpAnyH_take (i := 23) (oi := ({ dst := some 91, op := Op.move (Operand.tmp 13), type := 3, pos := "law.go:95", after := #[{ on := 14, ground := Ground.guard }], guard := some (14, false) } : Oper)) (v := ?_) rfl (by kernel_rfl) (by kernel_rfl) (by kernel_rfl) (fun _ _ _ h => h) (Or.inl ⟨by rfl, ?_⟩) (by assumption) ?_
                rotate_left
                · (intro w hSw; (try dsimp only at hSw); go_simp; try with_reducible rfl)
                simp only [Act.put, List.setIfInBounds_toArray, List.set_cons_zero, List.set_cons_succ]
                refine wpAnyH_take (i := 24) (oi := ({ dst := some 92, op := Op.indexAddr 27 (Operand.tmp 90) (Operand.tmp 91), type := 0, pos := "law.go:95", after := #[{ on := 22, ground := Ground.data }, { on := 23, ground := Ground.data }, { on := 14, ground := Ground.guard }], guard := some (14, false) } : Oper)) (v := ?_) rfl (by kernel_rfl) (by kernel_rfl) (by kernel_rfl) (fun _ _ _ h => h) (Or.inl ⟨by rfl, ?_⟩) (by assumption) ?_
                rotate_left
                · (intro w hSw; (try dsimp only at hSw); go_simp; try with_reducible rfl)
                simp only [Act.put, List.setIfInBounds_toArray, List.set_cons_zero, List.set_cons_succ]
                refine wpAnyH_take (i := 25) (oi := ({ dst := some 93, op := Op.load 26 (Operand.tmp 92), type := 26, pos := "law.go:95", after := #[{ on := 24, ground := Ground.data }, { on := 14, ground := Ground.guard }], guard := some (14, false) } : Oper)) (v := ?_) rfl (by kernel_rfl) (by kernel_rfl) (by kernel_rfl) (fun _ _ _ h => h) (Or.inl ⟨by rfl, ?_⟩) (by assumption) ?_
                rotate_left
                · (intro w hSw; (try dsimp only at hSw); go_simp; try with_reducible rfl)
                simp only [Act.put, List.setIfInBounds_toArray, List.set_cons_zero, List.set_cons_succ]
                refine wpAnyH_ready (rs := [20]) (by kernel_rfl) (by simp) ?_
                refine AllReadyH.cons (o := ({ dst := some 88, op := Op.call { callee := Callee.value (Operand.func 20), args := #[Operand.tmp 83, Operand.tmp 87], argTypes := #[27, 26] }, type := 3, pos := "law.go:95", after := #[{ on := 15, ground := Ground.data }, { on := 19, ground := Ground.data }, { on := 14, ground := Ground.chain }, { on := 14, ground := Ground.guard }], guard := some (14, false) } : Oper)) rfl (fun K hK => ?_) AllReadyH.nil
                go_simp
                ((with_reducible refine (HC1.out _ hW1.out).mono ?_); rintro e w2 ⟨rfl, hb2⟩; have hW2 := Lib.hid (hW1.out.trans (hb2.mono hW1.out.size)); have hS2 := HK.out _ hW2.out)
                go_wp2_with fail
                refine hK.out _ _ ?_ (fun hHeld2 => ?_)
                · (first | assumption | go_keep)
                clear hK K
                try simp only [Act.put, List.setIfInBounds_toArray, List.set_cons_zero, List.set_cons_succ]
                refine wpAnyH_ready (rs := [26]) (by kernel_rfl) (by simp) ?_
                refine AllReadyH.cons (o := ({ dst := some 94, op := Op.call { callee := Callee.value (Operand.func 20), args := #[Operand.tmp 89, Operand.tmp 93], argTypes := #[27, 26] }, type := 3, pos := "law.go:95", after := #[{ on := 21, ground := Ground.data }, { on := 25, ground := Ground.data }, { on := 20, ground := Ground.chain }, { on := 14, ground := Ground.guard }], guard := some (14, false) } : Oper)) rfl (fun K hK => ?_) AllReadyH.nil
                go_simp
                ((with_reducible refine (HC2.out _ hW2.out).mono ?_); rintro e w3 ⟨rfl, hb3⟩; have hW3 := Lib.hid (hW2.out.trans (hb3.mono hW2.out.size)); have hS3 := HK.out _ hW3.out)
                go_wp2_with fail
                refine hK.out _ _ ?_ (fun hHeld2 => ?_)
                · (first | assumption | go_keep)
                clear hK K
                try simp only [Act.put, List.setIfInBounds_toArray, List.set_cons_zero, List.set_cons_succ]
                refine wpAnyH_take (i := 27) (oi := ({ dst := some 95, op := Op.binOp BinOp.neq 3 (Operand.tmp 88) (Operand.tmp 94) 3, type := 4, pos := "law.go:95", after := #[{ on := 20, ground := Ground.data }, { on := 26, ground := Ground.data }, { on := 14, ground := Ground.guard }], guard := some (14, false) } : Oper)) (v := ?_) rfl (by kernel_rfl) (by kernel_rfl) (by kernel_rfl) (fun _ _ _ h => h) (Or.inl ⟨by rfl, ?_⟩) (by assumption) ?_
                rotate_left
                · (intro w hSw; (try dsimp only at hSw); go_simp; try with_reducible rfl)
                simp only [Act.put, List.setIfInBounds_toArray, List.set_cons_zero, List.set_cons_succ]
                refine wpAnyH_take (i := 28) (oi := ({ dst := some 96, op := Op.pick (Operand.tmp 82) (Operand.const (Value.bool true)) (Operand.tmp 95), type := 4, pos := "law.go:95", after := #[{ on := 14, ground := Ground.data }, { on := 27, ground := Ground.data }], guard := none } : Oper)) (v := ?_) rfl (by kernel_rfl) (by kernel_rfl) (by kernel_rfl) (fun _ _ _ h => h) (Or.inl ⟨by rfl, ?_⟩) (by assumption) ?_
                rotate_left
                · (intro w hSw; (try dsimp only at hSw); go_simp; try with_reducible rfl)
                simp only [Act.put, List.setIfInBounds_toArray, List.set_cons_zero, List.set_cons_succ]
                refine wpAnyH_done (by kernel_rfl) ?_ _
                go_wp2_with fail
                go_roundw
                case rel => exact ⟨1, by go_num, by omega, hbw.trans (hW3.out.mono hbw.size)⟩
                case measure => simp [intOf]; omega
            · obtain rfl : k = l.length := by omega
              have HW := Lib.hid (wakes_any wr (HE.out.below HVr.out))
              clear hbw
              go_wp2_with fail
              with_reducible refine HW.out.mono ?_
              rintro e v9 ⟨rfl, hb9⟩
              go_wp2_with fail
              go_ret
              exact ⟨rfl, HVr.out.trans (hb9.mono HVr.out.size)⟩
        | true =>
          go_wp2_with fail
          with_reducible refine HL4.out.mono ?_
          rintro e w5 ⟨rfl, hb5, _⟩
          have HB5 := Lib.hid (HB4.out.trans (hb5.mono (by omega)))
          have HX5 := Lib.hid (HX4.out.below hb5 (by omega))
          have HY5 := Lib.hid (HY4.out.below hb5 (by omega))
          have HZ5 := Lib.hid (HZ4.out.below hb5 (by omega))
          have hs5 := hb5.size
          have hsz5 : w.heap.size + 3 ≤ w5.heap.size := by omega
          have HL5 := Lib.hid (HLs.out y z w5)
          obtain ⟨p4, hp4⟩ : ∃ p, lessP y z = p := ⟨_, rfl⟩
          rw [hp4] at HL5
          have HP4 := Lib.hid hp4
          clear hb5 HL4 HX4 HY4 HZ4 HB4 d0 d1 d2 d3 d4 d5 d6 d7 d8 d9 dz e0 e1 e2 e3 e4 e5 e6 e7 e8 e9 ez hs5 hsz4 hp4
          obtain ⟨d0, d1, d2, d3, d4, d5, d6, d7, d8, d9, dz⟩ := HY5.out
          obtain ⟨e0, e1, e2, e3, e4, e5, e6, e7, e8, e9, ez⟩ := HZ5.out
          cases p4 with
          | false =>
            go_wp2_with fail
            with_reducible refine HL5.out.mono ?_
            rintro e w6 ⟨rfl, hb6, _⟩
            have HBV := Lib.hid (HB5.out.trans (hb6.mono (by omega)))
            clear hb6 HL5 HX5 HY5 HZ5 HB5 d0 d1 d2 d3 d4 d5 d6 d7 d8 d9 dz e0 e1 e2 e3 e4 e5 e6 e7 e8 e9 ez
            go_wp2_with fail
            have HC := sorted_any l a c w6 (by omega) (HA.out.below HBV.out)
            with_reducible refine HC.mono ?_
            clear HC
            rintro e v1 ⟨a1, c1, rfl, hR, hv1⟩
            have HV1 := Lib.hid (HBV.out.trans (hv1.mono HBV.out.size))
            have HR := Lib.hid hR
            have hlb : (((l.length : Nat) : Int) != ((l.length : Nat) : Int)) = false := by simp
            clear hR hv1 HBV
            have hsl : (sortP l).length = l.length := sort_len l
            have HCt := Lib.hid (sort_count l)
            have HNx := Lib.hid (sort_next l)
            obtain ⟨r, hr⟩ : ∃ r, sortP l = r := ⟨_, rfl⟩
            rw [hr] at HR hsl HCt HNx
            clear hr
            have Hsl := Lib.hid hsl
            have HCn := Lib.hid count_any
            simp only [Ad.v, Ad.enc] at HCn
            have hlr : l.length ≤ r.length := by omega
            have hrl : r.length ≤ l.length := by omega
            clear hsl
            go_wp2_with fail
            go_loopw [13] (fun i wr => ∃ k : Nat, i = .int .i64 k ∧ k ≤ l.length ∧ Below v1.heap.size v1 wr) (fun i _ => l.length - (intOf i).toNat)
            case atStart => exact ⟨0, rfl, by omega, Below.refl _ _⟩
            case round =>
              obtain ⟨k, rfl, hk, hbw⟩ := hrel
              have HVr := Lib.hid (HV1.out.trans (hbw.mono HV1.out.size))
              by_cases hlt : k < l.length
              · have hRr := HR.out.below hbw
                obtain ⟨b, o, rfl, hb, hat⟩ := hRr (by omega)
                obtain ⟨x1, hx1⟩ : ∃ y, r[k]? = some y := ⟨_, List.getElem?_eq_getElem (by omega)⟩
                have HC1 : Hid (∀ W, Below wr.heap.size wr W → Calls Tryz.prog 20 #[.slice (some ⟨b, o, none⟩) l.length c1, .agg #[.int .i8 x1.f, .int .u16 x1.g0, .int .u16 x1.g1, .int .u16 x1.g2, .int .u16 x1.g3, .int .u16 x1.g4, .int .u16 x1.g5, .int .u16 x1.g6, .int .u16 x1.g7, .int .i64 x1.p]] W fun e w' => e = .returned (.int .i64 (l.count x1)) ∧ Below W.heap.size W w') := Lib.hid (fun W hW => by
                  have h := HCn.out r (some ⟨b, o, none⟩) c1 x1 W (by omega) (RowAt.below hRr hW)
                  rw [Hsl.out, HCt.out x1] at h
                  exact h)
                have HC2 : Hid (∀ W, Below wr.heap.size wr W → Calls Tryz.prog 20 #[.slice a l.length c, .agg #[.int .i8 x1.f, .int .u16 x1.g0, .int .u16 x1.g1, .int .u16 x1.g2, .int .u16 x1.g3, .int .u16 x1.g4, .int .u16 x1.g5, .int .u16 x1.g6, .int .u16 x1.g7, .int .i64 x1.p]] W fun e w' => e = .returned (.int .i64 (l.count x1)) ∧ Below W.heap.size W w') := Lib.hid (fun W hW =>
                  HCn.out l a c x1 W (by omega) (HA.out.below (HVr.out.trans (hW.mono HVr.out.size))))
                have HAt := Lib.hid hat
                have hcb : (((l.count x1 : Nat) : Int) != ((l.count x1 : Nat) : Int)) = false := by simp
                by_cases h0 : 0 < k
                · obtain ⟨j, rfl⟩ : ∃ j, k = j + 1 := ⟨k - 1, by omega⟩
                  obtain ⟨x0, hx0⟩ : ∃ y, r[j]? = some y := ⟨_, List.getElem?_eq_getElem (by omega)⟩
                  have HL9 := fun W => Lib.hid (HLs.out x1 x0 W)
                  rw [HNx.out j x0 x1 hx0 hx1] at HL9
                  have HK := Lib.hid (show ∀ W, Below wr.heap.size wr W → (W.cell? ⟨b, o + (j + 1) * 10, none⟩ = some (.int .i8 x1.f) ∧ W.cell? ⟨b, o + (j + 1) * 10 + 1, none⟩ = some (.int .u16 x1.g0) ∧ W.cell? ⟨b, o + (j + 1) * 10 + 2, none⟩ = some (.int .u16 x1.g1) ∧ W.cell? ⟨b, o + (j + 1) * 10 + 3, none⟩ = some (.int .u16 x1.g2) ∧ W.cell? ⟨b, o + (j + 1) * 10 + 4, none⟩ = some (.int .u16 x1.g3) ∧ W.cell? ⟨b, o + (j + 1) * 10 + 5, none⟩ = some (.int .u16 x1.g4) ∧ W.cell? ⟨b, o + (j + 1) * 10 + 6, none⟩ = some (.int .u16 x1.g5) ∧ W.cell? ⟨b, o + (j + 1) * 10 + 7, none⟩ = some (.int .u16 x1.g6) ∧ W.cell? ⟨b, o + (j + 1) * 10 + 8, none⟩ = some (.int .u16 x1.g7) ∧ W.cell? ⟨b, o + (j + 1) * 10 + 9, none⟩ = some (.int .i64 x1.p)) ∧ (W.cell? ⟨b, o + j * 10, none⟩ = some (.int .i8 x0.f) ∧ W.cell? ⟨b, o + j * 10 + 1, none⟩ = some (.int .u16 x0.g0) ∧ W.cell? ⟨b, o + j * 10 + 2, none⟩ = some (.int .u16 x0.g1) ∧ W.cell? ⟨b, o + j * 10 + 3, none⟩ = some (.int .u16 x0.g2) ∧ W.cell? ⟨b, o + j * 10 + 4, none⟩ = some (.int .u16 x0.g3) ∧ W.cell? ⟨b, o + j * 10 + 5, none⟩ = some (.int .u16 x0.g4) ∧ W.cell? ⟨b, o + j * 10 + 6, none⟩ = some (.int .u16 x0.g5) ∧ W.cell? ⟨b, o + j * 10 + 7, none⟩ = some (.int .u16 x0.g6) ∧ W.cell? ⟨b, o + j * 10 + 8, none⟩ = some (.int .u16 x0.g7) ∧ W.cell? ⟨b, o + j * 10 + 9, none⟩ = some (.int .i64 x0.p)) from fun W h => ⟨(HAt.out.below h hb).cells (j + 1) x1 hx1, (HAt.out.below h hb).cells j x0 hx0⟩)
                  have hS1 := HK.out _ (Below.refl wr.heap.size wr)
                  have hjn : (j : Int) + 1 < (l.length : Int) := by omega
                  have hj0 : (0 : Int) ≤ (j : Int) + 1 := by omega
                  have hjm : (j : Int) < (l.length : Int) := by omega
                  have hw3 : IntKind.i64.wrap (j : Int) = (j : Int) := IntWalk.i64_in _ (by omega)
                  have hw2 : IntKind.i64.wrap (((j + 1 : Nat) : Int) - 1) = (j : Int) := by rw [show ((j + 1 : Nat) : Int) - 1 = (j : Int) by omega]; exact IntWalk.i64_in _ (by omega)
                  have hw1 : IntKind.i64.wrap ((j : Int) + 1 - 1) = (j : Int) := by rw [Int.add_sub_cancel]; exact IntWalk.i64_in _ (by omega)
                  clear hat hx1 hx0 hRr
                  have hW1 := Lib.hid ((Below.refl wr.heap.size wr).drew)
                  go_wp2_with fail
                  go_region_held3 (fun w' => (w'.cell? ⟨b, o + (j + 1) * 10, none⟩ = some (.int .i8 x1.f) ∧ w'.cell? ⟨b, o + (j + 1) * 10 + 1, none⟩ = some (.int .u16 x1.g0) ∧ w'.cell? ⟨b, o + (j + 1) * 10 + 2, none⟩ = some (.int .u16 x1.g1) ∧ w'.cell? ⟨b, o + (j + 1) * 10 + 3, none⟩ = some (.int .u16 x1.g2) ∧ w'.cell? ⟨b, o + (j + 1) * 10 + 4, none⟩ = some (.int .u16 x1.g3) ∧ w'.cell? ⟨b, o + (j + 1) * 10 + 5, none⟩ = some (.int .u16 x1.g4) ∧ w'.cell? ⟨b, o + (j + 1) * 10 + 6, none⟩ = some (.int .u16 x1.g5) ∧ w'.cell? ⟨b, o + (j + 1) * 10 + 7, none⟩ = some (.int .u16 x1.g6) ∧ w'.cell? ⟨b, o + (j + 1) * 10 + 8, none⟩ = some (.int .u16 x1.g7) ∧ w'.cell? ⟨b, o + (j + 1) * 10 + 9, none⟩ = some (.int .i64 x1.p)) ∧ (w'.cell? ⟨b, o + j * 10, none⟩ = some (.int .i8 x0.f) ∧ w'.cell? ⟨b, o + j * 10 + 1, none⟩ = some (.int .u16 x0.g0) ∧ w'.cell? ⟨b, o + j * 10 + 2, none⟩ = some (.int .u16 x0.g1) ∧ w'.cell? ⟨b, o + j * 10 + 3, none⟩ = some (.int .u16 x0.g2) ∧ w'.cell? ⟨b, o + j * 10 + 4, none⟩ = some (.int .u16 x0.g3) ∧ w'.cell? ⟨b, o + j * 10 + 5, none⟩ = some (.int .u16 x0.g4) ∧ w'.cell? ⟨b, o + j * 10 + 6, none⟩ = some (.int .u16 x0.g5) ∧ w'.cell? ⟨b, o + j * 10 + 7, none⟩ = some (.int .u16 x0.g6) ∧ w'.cell? ⟨b, o + j * 10 + 8, none⟩ = some (.int .u16 x0.g7) ∧ w'.cell? ⟨b, o + j * 10 + 9, none⟩ = some (.int .i64 x0.p))) (first | assumption | go_keep) (first
                    | (go_at_call 13; with_reducible refine (HL9 _).out.mono ?_; rintro e w2 ⟨rfl, hb2, _⟩; have hW2 := Lib.hid (hW1.out.trans (hb2.mono hW1.out.size)); have hS2 := HK.out _ hW2.out)
                    | (go_at_call 20; with_reducible refine (HC1.out _ hW2.out).mono ?_; rintro e w3 ⟨rfl, hb3⟩; have hW3 := Lib.hid (hW2.out.trans (hb3.mono hW2.out.size)); have hS3 := HK.out _ hW3.out)
                    | (go_at_call 20; with_reducible refine (HC2.out _ hW3.out).mono ?_; rintro e w4 ⟨rfl, hb4⟩; have hW4 := Lib.hid (hW3.out.trans (hb4.mono hW3.out.size)); have hS4 := HK.out _ hW4.out))
                  go_wp2_with fail
                  go_roundw
                  case rel => exact ⟨j + 1 + 1, by go_num, by omega, hbw.trans (hW4.out.mono hbw.size)⟩
                  case measure => simp [intOf]; omega
                · obtain rfl : k = 0 := by omega
                  have HK := Lib.hid (show ∀ W, Below wr.heap.size wr W → W.cell? ⟨b, o, none⟩ = some (.int .i8 x1.f) ∧ W.cell? ⟨b, o + 1, none⟩ = some (.int .u16 x1.g0) ∧ W.cell? ⟨b, o + 2, none⟩ = some (.int .u16 x1.g1) ∧ W.cell? ⟨b, o + 3, none⟩ = some (.int .u16 x1.g2) ∧ W.cell? ⟨b, o + 4, none⟩ = some (.int .u16 x1.g3) ∧ W.cell? ⟨b, o + 5, none⟩ = some (.int .u16 x1.g4) ∧ W.cell? ⟨b, o + 6, none⟩ = some (.int .u16 x1.g5) ∧ W.cell? ⟨b, o + 7, none⟩ = some (.int .u16 x1.g6) ∧ W.cell? ⟨b, o + 8, none⟩ = some (.int .u16 x1.g7) ∧ W.cell? ⟨b, o + 9, none⟩ = some (.int .i64 x1.p) from fun W h => by have := (HAt.out.below h hb).cells 0 x1 hx1; simpa only [Nat.zero_mul, Nat.add_zero] using this)
                  have hS1 := HK.out _ (Below.refl wr.heap.size wr)
                  have hpos : (0:Int) < (l.length : Int) := by omega
                  rw [show ((0 : Nat) : Int) = 0 from rfl]
                  clear hat hx1 hRr
                  have hW1 := Lib.hid ((Below.refl wr.heap.size wr).drew)
                  go_wp2_with fail
                  refine wp_region_held_drew (S := fun w' => w'.cell? ⟨b, o, none⟩ = some (.int .i8 x1.f) ∧ w'.cell? ⟨b, o + 1, none⟩ = some (.int .u16 x1.g0) ∧ w'.cell? ⟨b, o + 2, none⟩ = some (.int .u16 x1.g1) ∧ w'.cell? ⟨b, o + 3, none⟩ = some (.int .u16 x1.g2) ∧ w'.cell? ⟨b, o + 4, none⟩ = some (.int .u16 x1.g3) ∧ w'.cell? ⟨b, o + 5, none⟩ = some (.int .u16 x1.g4) ∧ w'.cell? ⟨b, o + 6, none⟩ = some (.int .u16 x1.g5) ∧ w'.cell? ⟨b, o + 7, none⟩ = some (.int .u16 x1.g6) ∧ w'.cell? ⟨b, o + 8, none⟩ = some (.int .u16 x1.g7) ∧ w'.cell? ⟨b, o + 9, none⟩ = some (.int .i64 x1.p)) (by kernel_rfl) ?_ (fun hHeld => ?_)
                  · (first | assumption | go_keep)
                  refine wpAnyH_take (i := 0) (oi := ({ dst := some 68, op := Op.move (Operand.tmp 13), type := 3, pos := "law.go:95", after := #[], guard := none } : Oper)) (v := ?_) rfl (by kernel_rfl) (by kernel_rfl) (by kernel_rfl) (fun _ _ _ h => h) (Or.inl ⟨by rfl, ?_⟩) (by assumption) ?_
                  rotate_left
                  · (intro w hSw; (try dsimp only at hSw); go_simp; try with_reducible rfl)
                  simp only [Act.put, List.setIfInBounds_toArray, List.set_cons_zero, List.set_cons_succ]
                  refine wpAnyH_take (i := 1) (oi := ({ dst := some 69, op := Op.binOp BinOp.gtr 3 (Operand.tmp 68) (Operand.const (Value.int IntKind.i64 0)) 3, type := 4, pos := "law.go:95", after := #[{ on := 0, ground := Ground.data }], guard := none } : Oper)) (v := ?_) rfl (by kernel_rfl) (by kernel_rfl) (by kernel_rfl) (fun _ _ _ h => h) (Or.inl ⟨by rfl, ?_⟩) (by assumption) ?_
                  rotate_left
                  · (intro w hSw; (try dsimp only at hSw); go_simp; try with_reducible rfl)
                  simp only [Act.put, List.setIfInBounds_toArray, List.set_cons_zero, List.set_cons_succ]
                  refine wpAnyH_take (i := 2) (oi := ({ dst := some 70, op := Op.move (Operand.tmp 69), type := 4, pos := "law.go:95", after := #[{ on := 1, ground := Ground.data }], guard := none } : Oper)) (v := ?_) rfl (by kernel_rfl) (by kernel_rfl) (by kernel_rfl) (fun _ _ _ h => h) (Or.inl ⟨by rfl, ?_⟩) (by assumption) ?_
                  rotate_left
                  · (intro w hSw; (try dsimp only at hSw); go_simp; try with_reducible rfl)
                  simp only [Act.put, List.setIfInBounds_toArray, List.set_cons_zero, List.set_cons_succ]
                  refine wpAnyH_take (i := 3) (oi := ({ dst := some 71, op := Op.move (Operand.tmp 12), type := 27, pos := "law.go:95", after := #[{ on := 2, ground := Ground.guard }], guard := some (2, true) } : Oper)) (v := undef) rfl (by kernel_rfl) (by kernel_rfl) (by kernel_rfl) (fun _ _ _ h => h) (Or.inr ⟨by rfl, rfl⟩) (by assumption) ?_
                  simp only [Act.put, List.setIfInBounds_toArray, List.set_cons_zero, List.set_cons_succ]
                  refine wpAnyH_take (i := 4) (oi := ({ dst := some 72, op := Op.move (Operand.tmp 13), type := 3, pos := "law.go:95", after := #[{ on := 2, ground := Ground.guard }], guard := some (2, true) } : Oper)) (v := undef) rfl (by kernel_rfl) (by kernel_rfl) (by kernel_rfl) (fun _ _ _ h => h) (Or.inr ⟨by rfl, rfl⟩) (by assumption) ?_
                  simp only [Act.put, List.setIfInBounds_toArray, List.set_cons_zero, List.set_cons_succ]
                  refine wpAnyH_take (i := 5) (oi := ({ dst := some 73, op := Op.indexAddr 27 (Operand.tmp 71) (Operand.tmp 72), type := 0, pos := "law.go:95", after := #[{ on := 3, ground := Ground.data }, { on := 4, ground := Ground.data }, { on := 2, ground := Ground.guard }], guard := some (2, true) } : Oper)) (v := undef) rfl (by kernel_rfl) (by kernel_rfl) (by kernel_rfl) (fun _ _ _ h => h) (Or.inr ⟨by rfl, rfl⟩) (by assumption) ?_
                  simp only [Act.put, List.setIfInBounds_toArray, List.set_cons_zero, List.set_cons_succ]
                  refine wpAnyH_take (i := 6) (oi := ({ dst := some 74, op := Op.load 26 (Operand.tmp 73), type := 26, pos := "law.go:95", after := #[{ on := 5, ground := Ground.data }, { on := 2, ground := Ground.guard }], guard := some (2, true) } : Oper)) (v := undef) rfl (by kernel_rfl) (by kernel_rfl) (by kernel_rfl) (fun _ _ _ h => h) (Or.inr ⟨by rfl, rfl⟩) (by assumption) ?_
                  simp only [Act.put, List.setIfInBounds_toArray, List.set_cons_zero, List.set_cons_succ]
                  refine wpAnyH_take (i := 7) (oi := ({ dst := some 75, op := Op.move (Operand.tmp 12), type := 27, pos := "law.go:95", after := #[{ on := 2, ground := Ground.guard }], guard := some (2, true) } : Oper)) (v := undef) rfl (by kernel_rfl) (by kernel_rfl) (by kernel_rfl) (fun _ _ _ h => h) (Or.inr ⟨by rfl, rfl⟩) (by assumption) ?_
                  simp only [Act.put, List.setIfInBounds_toArray, List.set_cons_zero, List.set_cons_succ]
                  refine wpAnyH_take (i := 8) (oi := ({ dst := some 76, op := Op.move (Operand.tmp 13), type := 3, pos := "law.go:95", after := #[{ on := 2, ground := Ground.guard }], guard := some (2, true) } : Oper)) (v := undef) rfl (by kernel_rfl) (by kernel_rfl) (by kernel_rfl) (fun _ _ _ h => h) (Or.inr ⟨by rfl, rfl⟩) (by assumption) ?_
                  simp only [Act.put, List.setIfInBounds_toArray, List.set_cons_zero, List.set_cons_succ]
                  refine wpAnyH_take (i := 9) (oi := ({ dst := some 77, op := Op.binOp BinOp.sub 3 (Operand.tmp 76) (Operand.const (Value.int IntKind.i64 1)) 3, type := 3, pos := "law.go:95", after := #[{ on := 8, ground := Ground.data }, { on := 2, ground := Ground.guard }], guard := some (2, true) } : Oper)) (v := undef) rfl (by kernel_rfl) (by kernel_rfl) (by kernel_rfl) (fun _ _ _ h => h) (Or.inr ⟨by rfl, rfl⟩) (by assumption) ?_
                  simp only [Act.put, List.setIfInBounds_toArray, List.set_cons_zero, List.set_cons_succ]
                  refine wpAnyH_take (i := 10) (oi := ({ dst := some 78, op := Op.indexAddr 27 (Operand.tmp 75) (Operand.tmp 77), type := 0, pos := "law.go:95", after := #[{ on := 7, ground := Ground.data }, { on := 9, ground := Ground.data }, { on := 2, ground := Ground.guard }], guard := some (2, true) } : Oper)) (v := undef) rfl (by kernel_rfl) (by kernel_rfl) (by kernel_rfl) (fun _ _ _ h => h) (Or.inr ⟨by rfl, rfl⟩) (by assumption) ?_
                  simp only [Act.put, List.setIfInBounds_toArray, List.set_cons_zero, List.set_cons_succ]
                  refine wpAnyH_take (i := 11) (oi := ({ dst := some 79, op := Op.load 26 (Operand.tmp 78), type := 26, pos := "law.go:95", after := #[{ on := 10, ground := Ground.data }, { on := 2, ground := Ground.guard }], guard := some (2, true) } : Oper)) (v := undef) rfl (by kernel_rfl) (by kernel_rfl) (by kernel_rfl) (fun _ _ _ h => h) (Or.inr ⟨by rfl, rfl⟩) (by assumption) ?_
                  simp only [Act.put, List.setIfInBounds_toArray, List.set_cons_zero, List.set_cons_succ]
                  refine wpAnyH_take (i := 12) (oi := ({ dst := some 80, op := Op.call { callee := Callee.value (Operand.func 13), args := #[Operand.tmp 74, Operand.tmp 79], argTypes := #[26, 26] }, type := 4, pos := "law.go:95", after := #[{ on := 6, ground := Ground.data }, { on := 11, ground := Ground.data }, { on := 2, ground := Ground.chain }, { on := 2, ground := Ground.guard }], guard := some (2, true) } : Oper)) (v := undef) rfl (by kernel_rfl) (by kernel_rfl) (by kernel_rfl) (fun _ _ _ h => h) (Or.inr ⟨by rfl, rfl⟩) (by assumption) ?_
                  simp only [Act.put, List.setIfInBounds_toArray, List.set_cons_zero, List.set_cons_succ]
                  refine wpAnyH_take (i := 13) (oi := ({ dst := some 81, op := Op.pick (Operand.tmp 70) (Operand.tmp 80) (Operand.const (Value.bool false)), type := 4, pos := "law.go:95", after := #[{ on := 2, ground := Ground.data }, { on := 12, ground := Ground.data }], guard := none } : Oper)) (v := ?_) rfl (by kernel_rfl) (by kernel_rfl) (by kernel_rfl) (fun _ _ _ h => h) (Or.inl ⟨by rfl, ?_⟩) (by assumption) ?_
                  rotate_left
                  · (intro w hSw; (try dsimp only at hSw); go_simp; try with_reducible rfl)
                  simp only [Act.put, List.setIfInBounds_toArray, List.set_cons_zero, List.set_cons_succ]
                  refine wpAnyH_take (i := 14) (oi := ({ dst := some 82, op := Op.move (Operand.tmp 81), type := 4, pos := "law.go:95", after := #[{ on := 13, ground := Ground.data }, { on := 12, ground := Ground.chain }], guard := none } : Oper)) (v := ?_) rfl (by kernel_rfl) (by kernel_rfl) (by kernel_rfl) (fun _ _ _ h => h) (Or.inl ⟨by rfl, ?_⟩) (by assumption) ?_
                  rotate_left
                  · (intro w hSw; (try dsimp only at hSw); go_simp; try with_reducible rfl)
                  simp only [Act.put, List.setIfInBounds_toArray, List.set_cons_zero, List.set_cons_succ]
                  refine wpAnyH_take (i := 15) (oi := ({ dst := some 83, op := Op.move (Operand.tmp 12), type := 27, pos := "law.go:95", after := #[{ on := 14, ground := Ground.guard }], guard := some (14, false) } : Oper)) (v := ?_) rfl (by kernel_rfl) (by kernel_rfl) (by kernel_rfl) (fun _ _ _ h => h) (Or.inl ⟨by rfl, ?_⟩) (by assumption) ?_
                  rotate_left
                  · (intro w hSw; (try dsimp only at hSw); go_simp; try with_reducible rfl)
                  simp only [Act.put, List.setIfInBounds_toArray, List.set_cons_zero, List.set_cons_succ]
                  refine wpAnyH_take (i := 16) (oi := ({ dst := some 84, op := Op.move (Operand.tmp 12), type := 27, pos := "law.go:95", after := #[{ on := 14, ground := Ground.guard }], guard := some (14, false) } : Oper)) (v := ?_) rfl (by kernel_rfl) (by kernel_rfl) (by kernel_rfl) (fun _ _ _ h => h) (Or.inl ⟨by rfl, ?_⟩) (by assumption) ?_
                  rotate_left
                  · (intro w hSw; (try dsimp only at hSw); go_simp; try with_reducible rfl)
                  simp only [Act.put, List.setIfInBounds_toArray, List.set_cons_zero, List.set_cons_succ]
                  refine wpAnyH_take (i := 17) (oi := ({ dst := some 85, op := Op.move (Operand.tmp 13), type := 3, pos := "law.go:95", after := #[{ on := 14, ground := Ground.guard }], guard := some (14, false) } : Oper)) (v := ?_) rfl (by kernel_rfl) (by kernel_rfl) (by kernel_rfl) (fun _ _ _ h => h) (Or.inl ⟨by rfl, ?_⟩) (by assumption) ?_
                  rotate_left
                  · (intro w hSw; (try dsimp only at hSw); go_simp; try with_reducible rfl)
                  simp only [Act.put, List.setIfInBounds_toArray, List.set_cons_zero, List.set_cons_succ]
                  refine wpAnyH_take (i := 18) (oi := ({ dst := some 86, op := Op.indexAddr 27 (Operand.tmp 84) (Operand.tmp 85), type := 0, pos := "law.go:95", after := #[{ on := 16, ground := Ground.data }, { on := 17, ground := Ground.data }, { on := 14, ground := Ground.guard }], guard := some (14, false) } : Oper)) (v := ?_) rfl (by kernel_rfl) (by kernel_rfl) (by kernel_rfl) (fun _ _ _ h => h) (Or.inl ⟨by rfl, ?_⟩) (by assumption) ?_
                  rotate_left
                  · (intro w hSw; (try dsimp only at hSw); go_simp; try with_reducible rfl)
                  simp only [Act.put, List.setIfInBounds_toArray, List.set_cons_zero, List.set_cons_succ]
                  refine wpAnyH_take (i := 19) (oi := ({ dst := some 87, op := Op.load 26 (Operand.tmp 86), type := 26, pos := "law.go:95", after := #[{ on := 18, ground := Ground.data }, { on := 14, ground := Ground.guard }], guard := some (14, false) } : Oper)) (v := ?_) rfl (by kernel_rfl) (by kernel_rfl) (by kernel_rfl) (fun _ _ _ h => h) (Or.inl ⟨by rfl, ?_⟩) (by assumption) ?_
                  rotate_left
                  · (intro w hSw; (try dsimp only at hSw); go_simp; try with_reducible rfl)
                  simp only [Act.put, List.setIfInBounds_toArray, List.set_cons_zero, List.set_cons_succ]
                  refine wpAnyH_take (i := 21) (oi := ({ dst := some 89, op := Op.move (Operand.tmp 3), type := 27, pos := "law.go:95", after := #[{ on := 14, ground := Ground.guard }], guard := some (14, false) } : Oper)) (v := ?_) rfl (by kernel_rfl) (by kernel_rfl) (by kernel_rfl) (fun _ _ _ h => h) (Or.inl ⟨by rfl, ?_⟩) (by assumption) ?_
                  rotate_left
                  · (intro w hSw; (try dsimp only at hSw); go_simp; try with_reducible rfl)
                  simp only [Act.put, List.setIfInBounds_toArray, List.set_cons_zero, List.set_cons_succ]
                  refine wpAnyH_take (i := 22) (oi := ({ dst := some 90, op := Op.move (Operand.tmp 12), type := 27, pos := "law.go:95", after := #[{ on := 14, ground := Ground.guard }], guard := some (14, false) } : Oper)) (v := ?_) rfl (by kernel_rfl) (by kernel_rfl) (by kernel_rfl) (fun _ _ _ h => h) (Or.inl ⟨by rfl, ?_⟩) (by assumption) ?_
                  rotate_left
                  · (intro w hSw; (try dsimp only at hSw); go_simp; try with_reducible rfl)
                  simp only [Act.put, List.setIfInBounds_toArray, List.set_cons_zero, List.set_cons_succ]
                  refine wpAnyH_take (i := 23) (oi := ({ dst := some 91, op := Op.move (Operand.tmp 13), type := 3, pos := "law.go:95", after := #[{ on := 14, ground := Ground.guard }], guard := some (14, false) } : Oper)) (v := ?_) rfl (by kernel_rfl) (by kernel_rfl) (by kernel_rfl) (fun _ _ _ h => h) (Or.inl ⟨by rfl, ?_⟩) (by assumption) ?_
                  rotate_left
                  · (intro w hSw; (try dsimp only at hSw); go_simp; try with_reducible rfl)
                  simp only [Act.put, List.setIfInBounds_toArray, List.set_cons_zero, List.set_cons_succ]
                  refine wpAnyH_take (i := 24) (oi := ({ dst := some 92, op := Op.indexAddr 27 (Operand.tmp 90) (Operand.tmp 91), type := 0, pos := "law.go:95", after := #[{ on := 22, ground := Ground.data }, { on := 23, ground := Ground.data }, { on := 14, ground := Ground.guard }], guard := some (14, false) } : Oper)) (v := ?_) rfl (by kernel_rfl) (by kernel_rfl) (by kernel_rfl) (fun _ _ _ h => h) (Or.inl ⟨by rfl, ?_⟩) (by assumption) ?_
                  rotate_left
                  · (intro w hSw; (try dsimp only at hSw); go_simp; try with_reducible rfl)
                  simp only [Act.put, List.setIfInBounds_toArray, List.set_cons_zero, List.set_cons_succ]
                  refine wpAnyH_take (i := 25) (oi := ({ dst := some 93, op := Op.load 26 (Operand.tmp 92), type := 26, pos := "law.go:95", after := #[{ on := 24, ground := Ground.data }, { on := 14, ground := Ground.guard }], guard := some (14, false) } : Oper)) (v := ?_) rfl (by kernel_rfl) (by kernel_rfl) (by kernel_rfl) (fun _ _ _ h => h) (Or.inl ⟨by rfl, ?_⟩) (by assumption) ?_
                  rotate_left
                  · (intro w hSw; (try dsimp only at hSw); go_simp; try with_reducible rfl)
                  simp only [Act.put, List.setIfInBounds_toArray, List.set_cons_zero, List.set_cons_succ]
                  refine wpAnyH_ready (rs := [20]) (by kernel_rfl) (by simp) ?_
                  refine AllReadyH.cons (o := ({ dst := some 88, op := Op.call { callee := Callee.value (Operand.func 20), args := #[Operand.tmp 83, Operand.tmp 87], argTypes := #[27, 26] }, type := 3, pos := "law.go:95", after := #[{ on := 15, ground := Ground.data }, { on := 19, ground := Ground.data }, { on := 14, ground := Ground.chain }, { on := 14, ground := Ground.guard }], guard := some (14, false) } : Oper)) rfl (fun K hK => ?_) AllReadyH.nil
                  go_simp
                  ((with_reducible refine (HC1.out _ hW1.out).mono ?_); rintro e w2 ⟨rfl, hb2⟩; have hW2 := Lib.hid (hW1.out.trans (hb2.mono hW1.out.size)); have hS2 := HK.out _ hW2.out)
                  go_wp2_with fail
                  refine hK.out _ _ ?_ (fun hHeld2 => ?_)
                  · (first | assumption | go_keep)
                  clear hK K
                  try simp only [Act.put, List.setIfInBounds_toArray, List.set_cons_zero, List.set_cons_succ]
                  refine wpAnyH_ready (rs := [26]) (by kernel_rfl) (by simp) ?_
                  refine AllReadyH.cons (o := ({ dst := some 94, op := Op.call { callee := Callee.value (Operand.func 20), args := #[Operand.tmp 89, Operand.tmp 93], argTypes := #[27, 26] }, type := 3, pos := "law.go:95", after := #[{ on := 21, ground := Ground.data }, { on := 25, ground := Ground.data }, { on := 20, ground := Ground.chain }, { on := 14, ground := Ground.guard }], guard := some (14, false) } : Oper)) rfl (fun K hK => ?_) AllReadyH.nil
                  go_simp
                  ((with_reducible refine (HC2.out _ hW2.out).mono ?_); rintro e w3 ⟨rfl, hb3⟩; have hW3 := Lib.hid (hW2.out.trans (hb3.mono hW2.out.size)); have hS3 := HK.out _ hW3.out)
                  go_wp2_with fail
                  refine hK.out _ _ ?_ (fun hHeld2 => ?_)
                  · (first | assumption | go_keep)
                  clear hK K
                  try simp only [Act.put, List.setIfInBounds_toArray, List.set_cons_zero, List.set_cons_succ]
                  refine wpAnyH_take (i := 27) (oi := ({ dst := some 95, op := Op.binOp BinOp.neq 3 (Operand.tmp 88) (Operand.tmp 94) 3, type := 4, pos := "law.go:95", after := #[{ on := 20, ground := Ground.data }, { on := 26, ground := Ground.data }, { on := 14, ground := Ground.guard }], guard := some (14, false) } : Oper)) (v := ?_) rfl (by kernel_rfl) (by kernel_rfl) (by kernel_rfl) (fun _ _ _ h => h) (Or.inl ⟨by rfl, ?_⟩) (by assumption) ?_
                  rotate_left
                  · (intro w hSw; (try dsimp only at hSw); go_simp; try with_reducible rfl)
                  simp only [Act.put, List.setIfInBounds_toArray, List.set_cons_zero, List.set_cons_succ]
                  refine wpAnyH_take (i := 28) (oi := ({ dst := some 96, op := Op.pick (Operand.tmp 82) (Operand.const (Value.bool true)) (Operand.tmp 95), type := 4, pos := "law.go:95", after := #[{ on := 14, ground := Ground.data }, { on := 27, ground := Ground.data }], guard := none } : Oper)) (v := ?_) rfl (by kernel_rfl) (by kernel_rfl) (by kernel_rfl) (fun _ _ _ h => h) (Or.inl ⟨by rfl, ?_⟩) (by assumption) ?_
                  rotate_left
                  · (intro w hSw; (try dsimp only at hSw); go_simp; try with_reducible rfl)
                  simp only [Act.put, List.setIfInBounds_toArray, List.set_cons_zero, List.set_cons_succ]
                  refine wpAnyH_done (by kernel_rfl) ?_ _
                  go_wp2_with fail
                  go_roundw
                  case rel => exact ⟨1, by go_num, by omega, hbw.trans (hW3.out.mono hbw.size)⟩
                  case measure => simp [intOf]; omega
              · obtain rfl : k = l.length := by omega
                have HW := Lib.hid (wakes_any wr (HE.out.below HVr.out))
                clear hbw
                go_wp2_with fail
                with_reducible refine HW.out.mono ?_
                rintro e v9 ⟨rfl, hb9⟩
                go_wp2_with fail
                go_ret
                exact ⟨rfl, HVr.out.trans (hb9.mono HVr.out.size)⟩
          | true =>
            go_wp2_with fail
            with_reducible refine HL5.out.mono ?_
            rintro e w6 ⟨rfl, hb6, _⟩
            have HB6 := Lib.hid (HB5.out.trans (hb6.mono (by omega)))
            have HX6 := Lib.hid (HX5.out.below hb6 (by omega))
            have HZ6 := Lib.hid (HZ5.out.below hb6 (by omega))
            have hs6 := hb6.size
            have HL6 := Lib.hid (HLs.out x z w6)
            rw [less_trans x y z HP1.out HP4.out] at HL6
            clear hb6 HL5 HX5 HY5 HZ5 HB5 d0 d1 d2 d3 d4 d5 d6 d7 d8 d9 dz e0 e1 e2 e3 e4 e5 e6 e7 e8 e9 ez
            obtain ⟨d0, d1, d2, d3, d4, d5, d6, d7, d8, d9, dz⟩ := HX6.out
            obtain ⟨e0, e1, e2, e3, e4, e5, e6, e7, e8, e9, ez⟩ := HZ6.out
            go_wp2_with fail
            with_reducible refine HL6.out.mono ?_
            rintro e w7 ⟨rfl, hb7, _⟩
            have HBV := Lib.hid (HB6.out.trans (hb7.mono (by omega)))
            clear hb7 HL6 HX6 HZ6 HB6 d0 d1 d2 d3 d4 d5 d6 d7 d8 d9 dz e0 e1 e2 e3 e4 e5 e6 e7 e8 e9 ez
            go_wp2_with fail
            have HC := sorted_any l a c w7 (by omega) (HA.out.below HBV.out)
            with_reducible refine HC.mono ?_
            clear HC
            rintro e v1 ⟨a1, c1, rfl, hR, hv1⟩
            have HV1 := Lib.hid (HBV.out.trans (hv1.mono HBV.out.size))
            have HR := Lib.hid hR
            have hlb : (((l.length : Nat) : Int) != ((l.length : Nat) : Int)) = false := by simp
            clear hR hv1 HBV
            have hsl : (sortP l).length = l.length := sort_len l
            have HCt := Lib.hid (sort_count l)
            have HNx := Lib.hid (sort_next l)
            obtain ⟨r, hr⟩ : ∃ r, sortP l = r := ⟨_, rfl⟩
            rw [hr] at HR hsl HCt HNx
            clear hr
            have Hsl := Lib.hid hsl
            have HCn := Lib.hid count_any
            simp only [Ad.v, Ad.enc] at HCn
            have hlr : l.length ≤ r.length := by omega
            have hrl : r.length ≤ l.length := by omega
            clear hsl
            go_wp2_with fail
            go_loopw [13] (fun i wr => ∃ k : Nat, i = .int .i64 k ∧ k ≤ l.length ∧ Below v1.heap.size v1 wr) (fun i _ => l.length - (intOf i).toNat)
            case atStart => exact ⟨0, rfl, by omega, Below.refl _ _⟩
            case round =>
              obtain ⟨k, rfl, hk, hbw⟩ := hrel
              have HVr := Lib.hid (HV1.out.trans (hbw.mono HV1.out.size))
              by_cases hlt : k < l.length
              · have hRr := HR.out.below hbw
                obtain ⟨b, o, rfl, hb, hat⟩ := hRr (by omega)
                obtain ⟨x1, hx1⟩ : ∃ y, r[k]? = some y := ⟨_, List.getElem?_eq_getElem (by omega)⟩
                have HC1 : Hid (∀ W, Below wr.heap.size wr W → Calls Tryz.prog 20 #[.slice (some ⟨b, o, none⟩) l.length c1, .agg #[.int .i8 x1.f, .int .u16 x1.g0, .int .u16 x1.g1, .int .u16 x1.g2, .int .u16 x1.g3, .int .u16 x1.g4, .int .u16 x1.g5, .int .u16 x1.g6, .int .u16 x1.g7, .int .i64 x1.p]] W fun e w' => e = .returned (.int .i64 (l.count x1)) ∧ Below W.heap.size W w') := Lib.hid (fun W hW => by
                  have h := HCn.out r (some ⟨b, o, none⟩) c1 x1 W (by omega) (RowAt.below hRr hW)
                  rw [Hsl.out, HCt.out x1] at h
                  exact h)
                have HC2 : Hid (∀ W, Below wr.heap.size wr W → Calls Tryz.prog 20 #[.slice a l.length c, .agg #[.int .i8 x1.f, .int .u16 x1.g0, .int .u16 x1.g1, .int .u16 x1.g2, .int .u16 x1.g3, .int .u16 x1.g4, .int .u16 x1.g5, .int .u16 x1.g6, .int .u16 x1.g7, .int .i64 x1.p]] W fun e w' => e = .returned (.int .i64 (l.count x1)) ∧ Below W.heap.size W w') := Lib.hid (fun W hW =>
                  HCn.out l a c x1 W (by omega) (HA.out.below (HVr.out.trans (hW.mono HVr.out.size))))
                have HAt := Lib.hid hat
                have hcb : (((l.count x1 : Nat) : Int) != ((l.count x1 : Nat) : Int)) = false := by simp
                by_cases h0 : 0 < k
                · obtain ⟨j, rfl⟩ : ∃ j, k = j + 1 := ⟨k - 1, by omega⟩
                  obtain ⟨x0, hx0⟩ : ∃ y, r[j]? = some y := ⟨_, List.getElem?_eq_getElem (by omega)⟩
                  have HL9 := fun W => Lib.hid (HLs.out x1 x0 W)
                  rw [HNx.out j x0 x1 hx0 hx1] at HL9
                  have HK := Lib.hid (show ∀ W, Below wr.heap.size wr W → (W.cell? ⟨b, o + (j + 1) * 10, none⟩ = some (.int .i8 x1.f) ∧ W.cell? ⟨b, o + (j + 1) * 10 + 1, none⟩ = some (.int .u16 x1.g0) ∧ W.cell? ⟨b, o + (j + 1) * 10 + 2, none⟩ = some (.int .u16 x1.g1) ∧ W.cell? ⟨b, o + (j + 1) * 10 + 3, none⟩ = some (.int .u16 x1.g2) ∧ W.cell? ⟨b, o + (j + 1) * 10 + 4, none⟩ = some (.int .u16 x1.g3) ∧ W.cell? ⟨b, o + (j + 1) * 10 + 5, none⟩ = some (.int .u16 x1.g4) ∧ W.cell? ⟨b, o + (j + 1) * 10 + 6, none⟩ = some (.int .u16 x1.g5) ∧ W.cell? ⟨b, o + (j + 1) * 10 + 7, none⟩ = some (.int .u16 x1.g6) ∧ W.cell? ⟨b, o + (j + 1) * 10 + 8, none⟩ = some (.int .u16 x1.g7) ∧ W.cell? ⟨b, o + (j + 1) * 10 + 9, none⟩ = some (.int .i64 x1.p)) ∧ (W.cell? ⟨b, o + j * 10, none⟩ = some (.int .i8 x0.f) ∧ W.cell? ⟨b, o + j * 10 + 1, none⟩ = some (.int .u16 x0.g0) ∧ W.cell? ⟨b, o + j * 10 + 2, none⟩ = some (.int .u16 x0.g1) ∧ W.cell? ⟨b, o + j * 10 + 3, none⟩ = some (.int .u16 x0.g2) ∧ W.cell? ⟨b, o + j * 10 + 4, none⟩ = some (.int .u16 x0.g3) ∧ W.cell? ⟨b, o + j * 10 + 5, none⟩ = some (.int .u16 x0.g4) ∧ W.cell? ⟨b, o + j * 10 + 6, none⟩ = some (.int .u16 x0.g5) ∧ W.cell? ⟨b, o + j * 10 + 7, none⟩ = some (.int .u16 x0.g6) ∧ W.cell? ⟨b, o + j * 10 + 8, none⟩ = some (.int .u16 x0.g7) ∧ W.cell? ⟨b, o + j * 10 + 9, none⟩ = some (.int .i64 x0.p)) from fun W h => ⟨(HAt.out.below h hb).cells (j + 1) x1 hx1, (HAt.out.below h hb).cells j x0 hx0⟩)
                  have hS1 := HK.out _ (Below.refl wr.heap.size wr)
                  have hjn : (j : Int) + 1 < (l.length : Int) := by omega
                  have hj0 : (0 : Int) ≤ (j : Int) + 1 := by omega
                  have hjm : (j : Int) < (l.length : Int) := by omega
                  have hw3 : IntKind.i64.wrap (j : Int) = (j : Int) := IntWalk.i64_in _ (by omega)
                  have hw2 : IntKind.i64.wrap (((j + 1 : Nat) : Int) - 1) = (j : Int) := by rw [show ((j + 1 : Nat) : Int) - 1 = (j : Int) by omega]; exact IntWalk.i64_in _ (by omega)
                  have hw1 : IntKind.i64.wrap ((j : Int) + 1 - 1) = (j : Int) := by rw [Int.add_sub_cancel]; exact IntWalk.i64_in _ (by omega)
                  clear hat hx1 hx0 hRr
                  have hW1 := Lib.hid ((Below.refl wr.heap.size wr).drew)
                  go_wp2_with fail
                  go_region_held3 (fun w' => (w'.cell? ⟨b, o + (j + 1) * 10, none⟩ = some (.int .i8 x1.f) ∧ w'.cell? ⟨b, o + (j + 1) * 10 + 1, none⟩ = some (.int .u16 x1.g0) ∧ w'.cell? ⟨b, o + (j + 1) * 10 + 2, none⟩ = some (.int .u16 x1.g1) ∧ w'.cell? ⟨b, o + (j + 1) * 10 + 3, none⟩ = some (.int .u16 x1.g2) ∧ w'.cell? ⟨b, o + (j + 1) * 10 + 4, none⟩ = some (.int .u16 x1.g3) ∧ w'.cell? ⟨b, o + (j + 1) * 10 + 5, none⟩ = some (.int .u16 x1.g4) ∧ w'.cell? ⟨b, o + (j + 1) * 10 + 6, none⟩ = some (.int .u16 x1.g5) ∧ w'.cell? ⟨b, o + (j + 1) * 10 + 7, none⟩ = some (.int .u16 x1.g6) ∧ w'.cell? ⟨b, o + (j + 1) * 10 + 8, none⟩ = some (.int .u16 x1.g7) ∧ w'.cell? ⟨b, o + (j + 1) * 10 + 9, none⟩ = some (.int .i64 x1.p)) ∧ (w'.cell? ⟨b, o + j * 10, none⟩ = some (.int .i8 x0.f) ∧ w'.cell? ⟨b, o + j * 10 + 1, none⟩ = some (.int .u16 x0.g0) ∧ w'.cell? ⟨b, o + j * 10 + 2, none⟩ = some (.int .u16 x0.g1) ∧ w'.cell? ⟨b, o + j * 10 + 3, none⟩ = some (.int .u16 x0.g2) ∧ w'.cell? ⟨b, o + j * 10 + 4, none⟩ = some (.int .u16 x0.g3) ∧ w'.cell? ⟨b, o + j * 10 + 5, none⟩ = some (.int .u16 x0.g4) ∧ w'.cell? ⟨b, o + j * 10 + 6, none⟩ = some (.int .u16 x0.g5) ∧ w'.cell? ⟨b, o + j * 10 + 7, none⟩ = some (.int .u16 x0.g6) ∧ w'.cell? ⟨b, o + j * 10 + 8, none⟩ = some (.int .u16 x0.g7) ∧ w'.cell? ⟨b, o + j * 10 + 9, none⟩ = some (.int .i64 x0.p))) (first | assumption | go_keep) (first
                    | (go_at_call 13; with_reducible refine (HL9 _).out.mono ?_; rintro e w2 ⟨rfl, hb2, _⟩; have hW2 := Lib.hid (hW1.out.trans (hb2.mono hW1.out.size)); have hS2 := HK.out _ hW2.out)
                    | (go_at_call 20; with_reducible refine (HC1.out _ hW2.out).mono ?_; rintro e w3 ⟨rfl, hb3⟩; have hW3 := Lib.hid (hW2.out.trans (hb3.mono hW2.out.size)); have hS3 := HK.out _ hW3.out)
                    | (go_at_call 20; with_reducible refine (HC2.out _ hW3.out).mono ?_; rintro e w4 ⟨rfl, hb4⟩; have hW4 := Lib.hid (hW3.out.trans (hb4.mono hW3.out.size)); have hS4 := HK.out _ hW4.out))
                  go_wp2_with fail
                  go_roundw
                  case rel => exact ⟨j + 1 + 1, by go_num, by omega, hbw.trans (hW4.out.mono hbw.size)⟩
                  case measure => simp [intOf]; omega
                · obtain rfl : k = 0 := by omega
                  have HK := Lib.hid (show ∀ W, Below wr.heap.size wr W → W.cell? ⟨b, o, none⟩ = some (.int .i8 x1.f) ∧ W.cell? ⟨b, o + 1, none⟩ = some (.int .u16 x1.g0) ∧ W.cell? ⟨b, o + 2, none⟩ = some (.int .u16 x1.g1) ∧ W.cell? ⟨b, o + 3, none⟩ = some (.int .u16 x1.g2) ∧ W.cell? ⟨b, o + 4, none⟩ = some (.int .u16 x1.g3) ∧ W.cell? ⟨b, o + 5, none⟩ = some (.int .u16 x1.g4) ∧ W.cell? ⟨b, o + 6, none⟩ = some (.int .u16 x1.g5) ∧ W.cell? ⟨b, o + 7, none⟩ = some (.int .u16 x1.g6) ∧ W.cell? ⟨b, o + 8, none⟩ = some (.int .u16 x1.g7) ∧ W.cell? ⟨b, o + 9, none⟩ = some (.int .i64 x1.p) from fun W h => by have := (HAt.out.below h hb).cells 0 x1 hx1; simpa only [Nat.zero_mul, Nat.add_zero] using this)
                  have hS1 := HK.out _ (Below.refl wr.heap.size wr)
                  have hpos : (0:Int) < (l.length : Int) := by omega
                  rw [show ((0 : Nat) : Int) = 0 from rfl]
                  clear hat hx1 hRr
                  have hW1 := Lib.hid ((Below.refl wr.heap.size wr).drew)
                  go_wp2_with fail
                  refine wp_region_held_drew (S := fun w' => w'.cell? ⟨b, o, none⟩ = some (.int .i8 x1.f) ∧ w'.cell? ⟨b, o + 1, none⟩ = some (.int .u16 x1.g0) ∧ w'.cell? ⟨b, o + 2, none⟩ = some (.int .u16 x1.g1) ∧ w'.cell? ⟨b, o + 3, none⟩ = some (.int .u16 x1.g2) ∧ w'.cell? ⟨b, o + 4, none⟩ = some (.int .u16 x1.g3) ∧ w'.cell? ⟨b, o + 5, none⟩ = some (.int .u16 x1.g4) ∧ w'.cell? ⟨b, o + 6, none⟩ = some (.int .u16 x1.g5) ∧ w'.cell? ⟨b, o + 7, none⟩ = some (.int .u16 x1.g6) ∧ w'.cell? ⟨b, o + 8, none⟩ = some (.int .u16 x1.g7) ∧ w'.cell? ⟨b, o + 9, none⟩ = some (.int .i64 x1.p)) (by kernel_rfl) ?_ (fun hHeld => ?_)
                  · (first | assumption | go_keep)
                  refine wpAnyH_take (i := 0) (oi := ({ dst := some 68, op := Op.move (Operand.tmp 13), type := 3, pos := "law.go:95", after := #[], guard := none } : Oper)) (v := ?_) rfl (by kernel_rfl) (by kernel_rfl) (by kernel_rfl) (fun _ _ _ h => h) (Or.inl ⟨by rfl, ?_⟩) (by assumption) ?_
                  rotate_left
                  · (intro w hSw; (try dsimp only at hSw); go_simp; try with_reducible rfl)
                  simp only [Act.put, List.setIfInBounds_toArray, List.set_cons_zero, List.set_cons_succ]
                  refine wpAnyH_take (i := 1) (oi := ({ dst := some 69, op := Op.binOp BinOp.gtr 3 (Operand.tmp 68) (Operand.const (Value.int IntKind.i64 0)) 3, type := 4, pos := "law.go:95", after := #[{ on := 0, ground := Ground.data }], guard := none } : Oper)) (v := ?_) rfl (by kernel_rfl) (by kernel_rfl) (by kernel_rfl) (fun _ _ _ h => h) (Or.inl ⟨by rfl, ?_⟩) (by assumption) ?_
                  rotate_left
                  · (intro w hSw; (try dsimp only at hSw); go_simp; try with_reducible rfl)
                  simp only [Act.put, List.setIfInBounds_toArray, List.set_cons_zero, List.set_cons_succ]
                  refine wpAnyH_take (i := 2) (oi := ({ dst := some 70, op := Op.move (Operand.tmp 69), type := 4, pos := "law.go:95", after := #[{ on := 1, ground := Ground.data }], guard := none } : Oper)) (v := ?_) rfl (by kernel_rfl) (by kernel_rfl) (by kernel_rfl) (fun _ _ _ h => h) (Or.inl ⟨by rfl, ?_⟩) (by assumption) ?_
                  rotate_left
                  · (intro w hSw; (try dsimp only at hSw); go_simp; try with_reducible rfl)
                  simp only [Act.put, List.setIfInBounds_toArray, List.set_cons_zero, List.set_cons_succ]
                  refine wpAnyH_take (i := 3) (oi := ({ dst := some 71, op := Op.move (Operand.tmp 12), type := 27, pos := "law.go:95", after := #[{ on := 2, ground := Ground.guard }], guard := some (2, true) } : Oper)) (v := undef) rfl (by kernel_rfl) (by kernel_rfl) (by kernel_rfl) (fun _ _ _ h => h) (Or.inr ⟨by rfl, rfl⟩) (by assumption) ?_
                  simp only [Act.put, List.setIfInBounds_toArray, List.set_cons_zero, List.set_cons_succ]
                  refine wpAnyH_take (i := 4) (oi := ({ dst := some 72, op := Op.move (Operand.tmp 13), type := 3, pos := "law.go:95", after := #[{ on := 2, ground := Ground.guard }], guard := some (2, true) } : Oper)) (v := undef) rfl (by kernel_rfl) (by kernel_rfl) (by kernel_rfl) (fun _ _ _ h => h) (Or.inr ⟨by rfl, rfl⟩) (by assumption) ?_
                  simp only [Act.put, List.setIfInBounds_toArray, List.set_cons_zero, List.set_cons_succ]
                  refine wpAnyH_take (i := 5) (oi := ({ dst := some 73, op := Op.indexAddr 27 (Operand.tmp 71) (Operand.tmp 72), type := 0, pos := "law.go:95", after := #[{ on := 3, ground := Ground.data }, { on := 4, ground := Ground.data }, { on := 2, ground := Ground.guard }], guard := some (2, true) } : Oper)) (v := undef) rfl (by kernel_rfl) (by kernel_rfl) (by kernel_rfl) (fun _ _ _ h => h) (Or.inr ⟨by rfl, rfl⟩) (by assumption) ?_
                  simp only [Act.put, List.setIfInBounds_toArray, List.set_cons_zero, List.set_cons_succ]
                  refine wpAnyH_take (i := 6) (oi := ({ dst := some 74, op := Op.load 26 (Operand.tmp 73), type := 26, pos := "law.go:95", after := #[{ on := 5, ground := Ground.data }, { on := 2, ground := Ground.guard }], guard := some (2, true) } : Oper)) (v := undef) rfl (by kernel_rfl) (by kernel_rfl) (by kernel_rfl) (fun _ _ _ h => h) (Or.inr ⟨by rfl, rfl⟩) (by assumption) ?_
                  simp only [Act.put, List.setIfInBounds_toArray, List.set_cons_zero, List.set_cons_succ]
                  refine wpAnyH_take (i := 7) (oi := ({ dst := some 75, op := Op.move (Operand.tmp 12), type := 27, pos := "law.go:95", after := #[{ on := 2, ground := Ground.guard }], guard := some (2, true) } : Oper)) (v := undef) rfl (by kernel_rfl) (by kernel_rfl) (by kernel_rfl) (fun _ _ _ h => h) (Or.inr ⟨by rfl, rfl⟩) (by assumption) ?_
                  simp only [Act.put, List.setIfInBounds_toArray, List.set_cons_zero, List.set_cons_succ]
                  refine wpAnyH_take (i := 8) (oi := ({ dst := some 76, op := Op.move (Operand.tmp 13), type := 3, pos := "law.go:95", after := #[{ on := 2, ground := Ground.guard }], guard := some (2, true) } : Oper)) (v := undef) rfl (by kernel_rfl) (by kernel_rfl) (by kernel_rfl) (fun _ _ _ h => h) (Or.inr ⟨by rfl, rfl⟩) (by assumption) ?_
                  simp only [Act.put, List.setIfInBounds_toArray, List.set_cons_zero, List.set_cons_succ]
                  refine wpAnyH_take (i := 9) (oi := ({ dst := some 77, op := Op.binOp BinOp.sub 3 (Operand.tmp 76) (Operand.const (Value.int IntKind.i64 1)) 3, type := 3, pos := "law.go:95", after := #[{ on := 8, ground := Ground.data }, { on := 2, ground := Ground.guard }], guard := some (2, true) } : Oper)) (v := undef) rfl (by kernel_rfl) (by kernel_rfl) (by kernel_rfl) (fun _ _ _ h => h) (Or.inr ⟨by rfl, rfl⟩) (by assumption) ?_
                  simp only [Act.put, List.setIfInBounds_toArray, List.set_cons_zero, List.set_cons_succ]
                  refine wpAnyH_take (i := 10) (oi := ({ dst := some 78, op := Op.indexAddr 27 (Operand.tmp 75) (Operand.tmp 77), type := 0, pos := "law.go:95", after := #[{ on := 7, ground := Ground.data }, { on := 9, ground := Ground.data }, { on := 2, ground := Ground.guard }], guard := some (2, true) } : Oper)) (v := undef) rfl (by kernel_rfl) (by kernel_rfl) (by kernel_rfl) (fun _ _ _ h => h) (Or.inr ⟨by rfl, rfl⟩) (by assumption) ?_
                  simp only [Act.put, List.setIfInBounds_toArray, List.set_cons_zero, List.set_cons_succ]
                  refine wpAnyH_take (i := 11) (oi := ({ dst := some 79, op := Op.load 26 (Operand.tmp 78), type := 26, pos := "law.go:95", after := #[{ on := 10, ground := Ground.data }, { on := 2, ground := Ground.guard }], guard := some (2, true) } : Oper)) (v := undef) rfl (by kernel_rfl) (by kernel_rfl) (by kernel_rfl) (fun _ _ _ h => h) (Or.inr ⟨by rfl, rfl⟩) (by assumption) ?_
                  simp only [Act.put, List.setIfInBounds_toArray, List.set_cons_zero, List.set_cons_succ]
                  refine wpAnyH_take (i := 12) (oi := ({ dst := some 80, op := Op.call { callee := Callee.value (Operand.func 13), args := #[Operand.tmp 74, Operand.tmp 79], argTypes := #[26, 26] }, type := 4, pos := "law.go:95", after := #[{ on := 6, ground := Ground.data }, { on := 11, ground := Ground.data }, { on := 2, ground := Ground.chain }, { on := 2, ground := Ground.guard }], guard := some (2, true) } : Oper)) (v := undef) rfl (by kernel_rfl) (by kernel_rfl) (by kernel_rfl) (fun _ _ _ h => h) (Or.inr ⟨by rfl, rfl⟩) (by assumption) ?_
                  simp only [Act.put, List.setIfInBounds_toArray, List.set_cons_zero, List.set_cons_succ]
                  refine wpAnyH_take (i := 13) (oi := ({ dst := some 81, op := Op.pick (Operand.tmp 70) (Operand.tmp 80) (Operand.const (Value.bool false)), type := 4, pos := "law.go:95", after := #[{ on := 2, ground := Ground.data }, { on := 12, ground := Ground.data }], guard := none } : Oper)) (v := ?_) rfl (by kernel_rfl) (by kernel_rfl) (by kernel_rfl) (fun _ _ _ h => h) (Or.inl ⟨by rfl, ?_⟩) (by assumption) ?_
                  rotate_left
                  · (intro w hSw; (try dsimp only at hSw); go_simp; try with_reducible rfl)
                  simp only [Act.put, List.setIfInBounds_toArray, List.set_cons_zero, List.set_cons_succ]
                  refine wpAnyH_take (i := 14) (oi := ({ dst := some 82, op := Op.move (Operand.tmp 81), type := 4, pos := "law.go:95", after := #[{ on := 13, ground := Ground.data }, { on := 12, ground := Ground.chain }], guard := none } : Oper)) (v := ?_) rfl (by kernel_rfl) (by kernel_rfl) (by kernel_rfl) (fun _ _ _ h => h) (Or.inl ⟨by rfl, ?_⟩) (by assumption) ?_
                  rotate_left
                  · (intro w hSw; (try dsimp only at hSw); go_simp; try with_reducible rfl)
                  simp only [Act.put, List.setIfInBounds_toArray, List.set_cons_zero, List.set_cons_succ]
                  refine wpAnyH_take (i := 15) (oi := ({ dst := some 83, op := Op.move (Operand.tmp 12), type := 27, pos := "law.go:95", after := #[{ on := 14, ground := Ground.guard }], guard := some (14, false) } : Oper)) (v := ?_) rfl (by kernel_rfl) (by kernel_rfl) (by kernel_rfl) (fun _ _ _ h => h) (Or.inl ⟨by rfl, ?_⟩) (by assumption) ?_
                  rotate_left
                  · (intro w hSw; (try dsimp only at hSw); go_simp; try with_reducible rfl)
                  simp only [Act.put, List.setIfInBounds_toArray, List.set_cons_zero, List.set_cons_succ]
                  refine wpAnyH_take (i := 16) (oi := ({ dst := some 84, op := Op.move (Operand.tmp 12), type := 27, pos := "law.go:95", after := #[{ on := 14, ground := Ground.guard }], guard := some (14, false) } : Oper)) (v := ?_) rfl (by kernel_rfl) (by kernel_rfl) (by kernel_rfl) (fun _ _ _ h => h) (Or.inl ⟨by rfl, ?_⟩) (by assumption) ?_
                  rotate_left
                  · (intro w hSw; (try dsimp only at hSw); go_simp; try with_reducible rfl)
                  simp only [Act.put, List.setIfInBounds_toArray, List.set_cons_zero, List.set_cons_succ]
                  refine wpAnyH_take (i := 17) (oi := ({ dst := some 85, op := Op.move (Operand.tmp 13), type := 3, pos := "law.go:95", after := #[{ on := 14, ground := Ground.guard }], guard := some (14, false) } : Oper)) (v := ?_) rfl (by kernel_rfl) (by kernel_rfl) (by kernel_rfl) (fun _ _ _ h => h) (Or.inl ⟨by rfl, ?_⟩) (by assumption) ?_
                  rotate_left
                  · (intro w hSw; (try dsimp only at hSw); go_simp; try with_reducible rfl)
                  simp only [Act.put, List.setIfInBounds_toArray, List.set_cons_zero, List.set_cons_succ]
                  refine wpAnyH_take (i := 18) (oi := ({ dst := some 86, op := Op.indexAddr 27 (Operand.tmp 84) (Operand.tmp 85), type := 0, pos := "law.go:95", after := #[{ on := 16, ground := Ground.data }, { on := 17, ground := Ground.data }, { on := 14, ground := Ground.guard }], guard := some (14, false) } : Oper)) (v := ?_) rfl (by kernel_rfl) (by kernel_rfl) (by kernel_rfl) (fun _ _ _ h => h) (Or.inl ⟨by rfl, ?_⟩) (by assumption) ?_
                  rotate_left
                  · (intro w hSw; (try dsimp only at hSw); go_simp; try with_reducible rfl)
                  simp only [Act.put, List.setIfInBounds_toArray, List.set_cons_zero, List.set_cons_succ]
                  refine wpAnyH_take (i := 19) (oi := ({ dst := some 87, op := Op.load 26 (Operand.tmp 86), type := 26, pos := "law.go:95", after := #[{ on := 18, ground := Ground.data }, { on := 14, ground := Ground.guard }], guard := some (14, false) } : Oper)) (v := ?_) rfl (by kernel_rfl) (by kernel_rfl) (by kernel_rfl) (fun _ _ _ h => h) (Or.inl ⟨by rfl, ?_⟩) (by assumption) ?_
                  rotate_left
                  · (intro w hSw; (try dsimp only at hSw); go_simp; try with_reducible rfl)
                  simp only [Act.put, List.setIfInBounds_toArray, List.set_cons_zero, List.set_cons_succ]
                  refine wpAnyH_take (i := 21) (oi := ({ dst := some 89, op := Op.move (Operand.tmp 3), type := 27, pos := "law.go:95", after := #[{ on := 14, ground := Ground.guard }], guard := some (14, false) } : Oper)) (v := ?_) rfl (by kernel_rfl) (by kernel_rfl) (by kernel_rfl) (fun _ _ _ h => h) (Or.inl ⟨by rfl, ?_⟩) (by assumption) ?_
                  rotate_left
                  · (intro w hSw; (try dsimp only at hSw); go_simp; try with_reducible rfl)
                  simp only [Act.put, List.setIfInBounds_toArray, List.set_cons_zero, List.set_cons_succ]
                  refine wpAnyH_take (i := 22) (oi := ({ dst := some 90, op := Op.move (Operand.tmp 12), type := 27, pos := "law.go:95", after := #[{ on := 14, ground := Ground.guard }], guard := some (14, false) } : Oper)) (v := ?_) rfl (by kernel_rfl) (by kernel_rfl) (by kernel_rfl) (fun _ _ _ h => h) (Or.inl ⟨by rfl, ?_⟩) (by assumption) ?_
                  rotate_left
                  · (intro w hSw; (try dsimp only at hSw); go_simp; try with_reducible rfl)
                  simp only [Act.put, List.setIfInBounds_toArray, List.set_cons_zero, List.set_cons_succ]
                  refine wpAnyH_take (i := 23) (oi := ({ dst := some 91, op := Op.move (Operand.tmp 13), type := 3, pos := "law.go:95", after := #[{ on := 14, ground := Ground.guard }], guard := some (14, false) } : Oper)) (v := ?_) rfl (by kernel_rfl) (by kernel_rfl) (by kernel_rfl) (fun _ _ _ h => h) (Or.inl ⟨by rfl, ?_⟩) (by assumption) ?_
                  rotate_left
                  · (intro w hSw; (try dsimp only at hSw); go_simp; try with_reducible rfl)
                  simp only [Act.put, List.setIfInBounds_toArray, List.set_cons_zero, List.set_cons_succ]
                  refine wpAnyH_take (i := 24) (oi := ({ dst := some 92, op := Op.indexAddr 27 (Operand.tmp 90) (Operand.tmp 91), type := 0, pos := "law.go:95", after := #[{ on := 22, ground := Ground.data }, { on := 23, ground := Ground.data }, { on := 14, ground := Ground.guard }], guard := some (14, false) } : Oper)) (v := ?_) rfl (by kernel_rfl) (by kernel_rfl) (by kernel_rfl) (fun _ _ _ h => h) (Or.inl ⟨by rfl, ?_⟩) (by assumption) ?_
                  rotate_left
                  · (intro w hSw; (try dsimp only at hSw); go_simp; try with_reducible rfl)
                  simp only [Act.put, List.setIfInBounds_toArray, List.set_cons_zero, List.set_cons_succ]
                  refine wpAnyH_take (i := 25) (oi := ({ dst := some 93, op := Op.load 26 (Operand.tmp 92), type := 26, pos := "law.go:95", after := #[{ on := 24, ground := Ground.data }, { on := 14, ground := Ground.guard }], guard := some (14, false) } : Oper)) (v := ?_) rfl (by kernel_rfl) (by kernel_rfl) (by kernel_rfl) (fun _ _ _ h => h) (Or.inl ⟨by rfl, ?_⟩) (by assumption) ?_
                  rotate_left
                  · (intro w hSw; (try dsimp only at hSw); go_simp; try with_reducible rfl)
                  simp only [Act.put, List.setIfInBounds_toArray, List.set_cons_zero, List.set_cons_succ]
                  refine wpAnyH_ready (rs := [20]) (by kernel_rfl) (by simp) ?_
                  refine AllReadyH.cons (o := ({ dst := some 88, op := Op.call { callee := Callee.value (Operand.func 20), args := #[Operand.tmp 83, Operand.tmp 87], argTypes := #[27, 26] }, type := 3, pos := "law.go:95", after := #[{ on := 15, ground := Ground.data }, { on := 19, ground := Ground.data }, { on := 14, ground := Ground.chain }, { on := 14, ground := Ground.guard }], guard := some (14, false) } : Oper)) rfl (fun K hK => ?_) AllReadyH.nil
                  go_simp
                  ((with_reducible refine (HC1.out _ hW1.out).mono ?_); rintro e w2 ⟨rfl, hb2⟩; have hW2 := Lib.hid (hW1.out.trans (hb2.mono hW1.out.size)); have hS2 := HK.out _ hW2.out)
                  go_wp2_with fail
                  refine hK.out _ _ ?_ (fun hHeld2 => ?_)
                  · (first | assumption | go_keep)
                  clear hK K
                  try simp only [Act.put, List.setIfInBounds_toArray, List.set_cons_zero, List.set_cons_succ]
                  refine wpAnyH_ready (rs := [26]) (by kernel_rfl) (by simp) ?_
                  refine AllReadyH.cons (o := ({ dst := some 94, op := Op.call { callee := Callee.value (Operand.func 20), args := #[Operand.tmp 89, Operand.tmp 93], argTypes := #[27, 26] }, type := 3, pos := "law.go:95", after := #[{ on := 21, ground := Ground.data }, { on := 25, ground := Ground.data }, { on := 20, ground := Ground.chain }, { on := 14, ground := Ground.guard }], guard := some (14, false) } : Oper)) rfl (fun K hK => ?_) AllReadyH.nil
                  go_simp
                  ((with_reducible refine (HC2.out _ hW2.out).mono ?_); rintro e w3 ⟨rfl, hb3⟩; have hW3 := Lib.hid (hW2.out.trans (hb3.mono hW2.out.size)); have hS3 := HK.out _ hW3.out)
                  go_wp2_with fail
                  refine hK.out _ _ ?_ (fun hHeld2 => ?_)
                  · (first | assumption | go_keep)
                  clear hK K
                  try simp only [Act.put, List.setIfInBounds_toArray, List.set_cons_zero, List.set_cons_succ]
                  refine wpAnyH_take (i := 27) (oi := ({ dst := some 95, op := Op.binOp BinOp.neq 3 (Operand.tmp 88) (Operand.tmp 94) 3, type := 4, pos := "law.go:95", after := #[{ on := 20, ground := Ground.data }, { on := 26, ground := Ground.data }, { on := 14, ground := Ground.guard }], guard := some (14, false) } : Oper)) (v := ?_) rfl (by kernel_rfl) (by kernel_rfl) (by kernel_rfl) (fun _ _ _ h => h) (Or.inl ⟨by rfl, ?_⟩) (by assumption) ?_
                  rotate_left
                  · (intro w hSw; (try dsimp only at hSw); go_simp; try with_reducible rfl)
                  simp only [Act.put, List.setIfInBounds_toArray, List.set_cons_zero, List.set_cons_succ]
                  refine wpAnyH_take (i := 28) (oi := ({ dst := some 96, op := Op.pick (Operand.tmp 82) (Operand.const (Value.bool true)) (Operand.tmp 95), type := 4, pos := "law.go:95", after := #[{ on := 14, ground := Ground.data }, { on := 27, ground := Ground.data }], guard := none } : Oper)) (v := ?_) rfl (by kernel_rfl) (by kernel_rfl) (by kernel_rfl) (fun _ _ _ h => h) (Or.inl ⟨by rfl, ?_⟩) (by assumption) ?_
                  rotate_left
                  · (intro w hSw; (try dsimp only at hSw); go_simp; try with_reducible rfl)
                  simp only [Act.put, List.setIfInBounds_toArray, List.set_cons_zero, List.set_cons_succ]
                  refine wpAnyH_done (by kernel_rfl) ?_ _
                  go_wp2_with fail
                  go_roundw
                  case rel => exact ⟨1, by go_num, by omega, hbw.trans (hW3.out.mono hbw.size)⟩
                  case measure => simp [intOf]; omega
              · obtain rfl : k = l.length := by omega
                have HW := Lib.hid (wakes_any wr (HE.out.below HVr.out))
                clear hbw
                go_wp2_with fail
                with_reducible refine HW.out.mono ?_
                rintro e v9 ⟨rfl, hb9⟩
                go_wp2_with fail
                go_ret
                exact ⟨rfl, HVr.out.trans (hb9.mono HVr.out.size)⟩
end Go.Proofs.YtbejnnkdgcelmaaGreatDoor
