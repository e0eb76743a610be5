/- AddrTells: texts, what reads as an address, the order are the document's. -/
import Derived.Test.YtbejnnkdgcelmaaGreatDoorRefV
import Derived.Test.YtbejnnkdgcelmaaGreatDoorRefJ
import Derived.Test.YtbejnnkdgcelmaaGreatDoorRowP
import Derived.Test.YtbejnnkdgcelmaaGreatDoorSorted
set_option linter.unusedSimpArgs false
set_option linter.unusedVariables false
namespace Go.Proofs.YtbejnnkdgcelmaaGreatDoor
open Go.RowKit

theorem adsAt_drew {W : World} {b o : Nat} {l : List Ad} (h : AdsAt W b o l) : AdsAt W.drew b o l := h
theorem text_both (x : Ad) (hx : x.Ok) : ∃ (R : ByteArray) (E : Int), (∀ W, Env W → Calls Tryz.prog 7 #[x.v] W fun e w' => e = .returned (.tuple #[.string R, .int .i64 E]) ∧ Below W.heap.size W w') ∧ (∀ W, Calls Tryz.prog 8 #[x.v] W fun e w' => e = .returned (.tuple #[.string R, .int .i64 E]) ∧ Below W.heap.size W w') := by
  cases h : mayP x with
  | false => exact ⟨_, _, fun W _ => text_no x W h, fun W => refText_no x W h⟩
  | true => exact ⟨_, _, fun W hE => text_yes x W h hx hE, fun W => refText_yes x W h hx⟩

set_option maxHeartbeats 16000000 in
set_option maxRecDepth 1000000 in
theorem tells_walk (x y : Ad) (s : ByteArray) (l : List Ad) (a : Option Addr) (c : Nat) (fam : Int) (w : World) (hx : x.Ok) (hA : RowAt w a l) (hE : Env w) :
    Calls Tryz.prog 3 #[x.v, y.v, .string s, .slice a l.length c, .int .i8 fam] w fun e w' => e = .returned (.bool true) ∧ Below w.heap.size w w' := by
  obtain ⟨R, E, ht1, ht2⟩ := text_both x hx
  have HA := Lib.hid hA
  have HE := Lib.hid hE
  have hX := a10_at w x.f x.g0 x.g1 x.g2 x.g3 x.g4 x.g5 x.g6 x.g7 x.p 26
  have hB1 := (Below.refl w.heap.size w).alloc (Nat.le_refl _) (Obj.cells #[.int .i8 x.f, .int .u16 x.g0, .int .u16 x.g1, .int .u16 x.g2, .int .u16 x.g3, .int .u16 x.g4, .int .u16 x.g5, .int .u16 x.g6, .int .u16 x.g7, .int .i64 x.p] 26)
  have hs1 : (w.alloc (Obj.cells #[.int .i8 x.f, .int .u16 x.g0, .int .u16 x.g1, .int .u16 x.g2, .int .u16 x.g3, .int .u16 x.g4, .int .u16 x.g5, .int .u16 x.g6, .int .u16 x.g7, .int .i64 x.p] 26)).heap.size = w.heap.size + 1 := by simp
  obtain ⟨V, hV⟩ : ∃ V, w.alloc (Obj.cells #[.int .i8 x.f, .int .u16 x.g0, .int .u16 x.g1, .int .u16 x.g2, .int .u16 x.g3, .int .u16 x.g4, .int .u16 x.g5, .int .u16 x.g6, .int .u16 x.g7, .int .i64 x.p] 26) = V := ⟨_, rfl⟩
  rw [hV] at hX hB1 hs1
  have hY := a10_at V y.f y.g0 y.g1 y.g2 y.g3 y.g4 y.g5 y.g6 y.g7 y.p 26
  have hX2 := hX.below ((Below.refl V.heap.size V).alloc (Nat.le_refl _) (Obj.cells #[.int .i8 y.f, .int .u16 y.g0, .int .u16 y.g1, .int .u16 y.g2, .int .u16 y.g3, .int .u16 y.g4, .int .u16 y.g5, .int .u16 y.g6, .int .u16 y.g7, .int .i64 y.p] 26)) (by omega)
  have hB2 := hB1.alloc (by omega) (Obj.cells #[.int .i8 y.f, .int .u16 y.g0, .int .u16 y.g1, .int .u16 y.g2, .int .u16 y.g3, .int .u16 y.g4, .int .u16 y.g5, .int .u16 y.g6, .int .u16 y.g7, .int .i64 y.p] 26)
  have hs2 : (V.alloc (Obj.cells #[.int .i8 y.f, .int .u16 y.g0, .int .u16 y.g1, .int .u16 y.g2, .int .u16 y.g3, .int .u16 y.g4, .int .u16 y.g5, .int .u16 y.g6, .int .u16 y.g7, .int .i64 y.p] 26)).heap.size = w.heap.size + 2 := by simp [hs1]
  obtain ⟨W1, hW⟩ : ∃ W, V.alloc (Obj.cells #[.int .i8 y.f, .int .u16 y.g0, .int .u16 y.g1, .int .u16 y.g2, .int .u16 y.g3, .int .u16 y.g4, .int .u16 y.g5, .int .u16 y.g6, .int .u16 y.g7, .int .i64 y.p] 26) = W := ⟨_, rfl⟩
  rw [hW] at hY hX2 hB2 hs2
  rw [hs1] at hY
  have HX := Lib.hid hX2
  have HY := Lib.hid hY
  have HB := Lib.hid hB2
  have HVW := Lib.hid (And.intro hV hW)
  clear hX hY hX2 hB1 hB2 hV hW hs1 hA hE hx
  simp only [Ad.v, Ad.enc] at ht1 ht2 ⊢
  have HT1 := Lib.hid ht1
  have HT2 := Lib.hid ht2
  have HG := Lib.hid (great_any l.length a c)
  clear ht1 ht2
  by_cases h2 : 2000 < s.size
  · have HW := Lib.hid (wakes_any W1 (HE.out.below HB.out))
    go_enter Tryz.func3, Tryz.ntmps3
    go_wp2_with fail
    rw [HVW.out.1, HVW.out.2]
    with_reducible refine HW.out.mono ?_
    rintro e w2 ⟨rfl, hb⟩
    go_wp2_with fail
    go_ret
    exact ⟨rfl, HB.out.trans (hb.mono HB.out.size)⟩
  · by_cases h60 : 60 < l.length
    · have hd : decide (60 < l.length) = true := by simpa using h60
      rw [hd] at HG
      have HW := Lib.hid (wakes_any W1 (HE.out.below HB.out))
      clear hd
      go_enter Tryz.func3, Tryz.ntmps3
      go_wp2_with fail
      rw [HVW.out.1, HVW.out.2]
      with_reducible refine (HG.out W1).mono ?_
      rintro e w2 ⟨rfl, rfl⟩
      go_wp2_with fail
      with_reducible refine HW.out.mono ?_
      rintro e w2 ⟨rfl, hb⟩
      go_wp2_with fail
      go_ret
      exact ⟨rfl, HB.out.trans (hb.mono HB.out.size)⟩
    · have hd : decide (60 < l.length) = false := by simpa using h60
      rw [hd] at HG
      clear hd
      have P1 := fun W (hW : Below w.heap.size w W) => parse_any s W (by omega) (HE.out.below hW)
      have P2 := fun W => refParse_any s W (by omega)
      unfold P.parseV at P1 P2
      obtain ⟨z, hz⟩ : ∃ z, (P.parseP s).getD Ad.zero = z := ⟨_, rfl⟩
      obtain ⟨G, hG⟩ : ∃ G : Int, (if (P.parseP s).isSome then (0 : Int) else 20) = G := ⟨_, rfl⟩
      rw [hz, hG] at P1 P2
      simp only [Ad.v, Ad.enc] at P1 P2
      have HP1 := Lib.hid P1
      have HP2 := Lib.hid P2
      clear P1 P2 hz hG
      go_enter Tryz.func3, Tryz.ntmps3
      go_wp2_with fail
      rw [HVW.out.1, HVW.out.2]
      with_reducible refine (HG.out W1).mono ?_
      rintro e w2 ⟨rfl, rfl⟩
      obtain ⟨c0, c1, c2, c3, c4, c5, c6, c7, c8, c9, fz⟩ := HX.out
      go_wp2_with fail
      with_reducible refine (HT1.out _ (HE.out.below HB.out)).mono ?_
      rintro e w2 ⟨rfl, hb2⟩
      have hs3 := hb2.size
      have HX2 := Lib.hid (HX.out.below hb2 (lt_of_a10 HX.out))
      have HY2 := Lib.hid (HY.out.below hb2 (lt_of_a10 HY.out))
      have HB2 := Lib.hid (HB.out.trans (hb2.mono HB.out.size))
      clear c0 c1 c2 c3 c4 c5 c6 c7 c8 c9 fz hb2 HX HY HB HVW
      obtain ⟨c0, c1, c2, c3, c4, c5, c6, c7, c8, c9, fz⟩ := HX2.out
      go_wp2_with fail
      with_reducible refine (HT2.out _).mono ?_
      rintro e w3 ⟨rfl, hb3⟩
      have hs4 := hb3.size
      have HX3 := Lib.hid (HX2.out.below hb3 (lt_of_a10 HX2.out))
      have HY3 := Lib.hid (HY2.out.below hb3 (lt_of_a10 HY2.out))
      have HB3 := Lib.hid (HB2.out.trans (hb3.mono HB2.out.size))
      clear c0 c1 c2 c3 c4 c5 c6 c7 c8 c9 fz hb3 HX2 HY2 HB2
      go_wp2_with fail
      with_reducible refine (HP1.out _ HB3.out).mono ?_
      rintro e w4 ⟨rfl, hb4⟩
      have HX4 := Lib.hid (HX3.out.below hb4 (lt_of_a10 HX3.out))
      have HY4 := Lib.hid (HY3.out.below hb4 (lt_of_a10 HY3.out))
      have HB4 := Lib.hid (HB3.out.trans (hb4.mono HB3.out.size))
      clear hb4 HX3 HY3 HB3
      go_upto_region 6 with fail
      have hZ := a10_at w4 z.f z.g0 z.g1 z.g2 z.g3 z.g4 z.g5 z.g6 z.g7 z.p 26
      have HX5 := Lib.hid (HX4.out.below ((Below.refl w4.heap.size w4).alloc (Nat.le_refl _) (Obj.cells #[.int .i8 z.f, .int .u16 z.g0, .int .u16 z.g1, .int .u16 z.g2, .int .u16 z.g3, .int .u16 z.g4, .int .u16 z.g5, .int .u16 z.g6, .int .u16 z.g7, .int .i64 z.p] 26)) (lt_of_a10 HX4.out))
      have HY5 := Lib.hid (HY4.out.below ((Below.refl w4.heap.size w4).alloc (Nat.le_refl _) (Obj.cells #[.int .i8 z.f, .int .u16 z.g0, .int .u16 z.g1, .int .u16 z.g2, .int .u16 z.g3, .int .u16 z.g4, .int .u16 z.g5, .int .u16 z.g6, .int .u16 z.g7, .int .i64 z.p] 26)) (lt_of_a10 HY4.out))
      have HB5 := Lib.hid (HB4.out.alloc HB4.out.size (Obj.cells #[.int .i8 z.f, .int .u16 z.g0, .int .u16 z.g1, .int .u16 z.g2, .int .u16 z.g3, .int .u16 z.g4, .int .u16 z.g5, .int .u16 z.g6, .int .u16 z.g7, .int .i64 z.p] 26))
      obtain ⟨b3, hb3e⟩ : ∃ b, w4.heap.size = b := ⟨_, rfl⟩
      rw [hb3e] at hZ ⊢
      clear hb3e
      generalize w4.alloc (Obj.cells #[.int .i8 z.f, .int .u16 z.g0, .int .u16 z.g1, .int .u16 z.g2, .int .u16 z.g3, .int .u16 z.g4, .int .u16 z.g5, .int .u16 z.g6, .int .u16 z.g7, .int .i64 z.p] 26) = W5 at *
      have HZ5 := Lib.hid hZ
      clear hZ HX4 HY4 HB4
      go_wp2_with fail
      with_reducible refine (HP2.out _).mono ?_
      rintro e w6 ⟨rfl, hb6⟩
      have HX6 := Lib.hid (HX5.out.below hb6 (lt_of_a10 HX5.out))
      have HY6 := Lib.hid (HY5.out.below hb6 (lt_of_a10 HY5.out))
      have HZ6 := Lib.hid (HZ5.out.below hb6 (lt_of_a10 HZ5.out))
      have HB6 := Lib.hid (HB5.out.trans (hb6.mono HB5.out.size))
      clear hb6 HX5 HY5 HZ5 HB5
      go_upto_region 7 with fail
      have hZ := a10_at w6 z.f z.g0 z.g1 z.g2 z.g3 z.g4 z.g5 z.g6 z.g7 z.p 26
      have HX7 := Lib.hid (HX6.out.below ((Below.refl w6.heap.size w6).alloc (Nat.le_refl _) (Obj.cells #[.int .i8 z.f, .int .u16 z.g0, .int .u16 z.g1, .int .u16 z.g2, .int .u16 z.g3, .int .u16 z.g4, .int .u16 z.g5, .int .u16 z.g6, .int .u16 z.g7, .int .i64 z.p] 26)) (lt_of_a10 HX6.out))
      have HY7 := Lib.hid (HY6.out.below ((Below.refl w6.heap.size w6).alloc (Nat.le_refl _) (Obj.cells #[.int .i8 z.f, .int .u16 z.g0, .int .u16 z.g1, .int .u16 z.g2, .int .u16 z.g3, .int .u16 z.g4, .int .u16 z.g5, .int .u16 z.g6, .int .u16 z.g7, .int .i64 z.p] 26)) (lt_of_a10 HY6.out))
      have HZ7 := Lib.hid (HZ6.out.below ((Below.refl w6.heap.size w6).alloc (Nat.le_refl _) (Obj.cells #[.int .i8 z.f, .int .u16 z.g0, .int .u16 z.g1, .int .u16 z.g2, .int .u16 z.g3, .int .u16 z.g4, .int .u16 z.g5, .int .u16 z.g6, .int .u16 z.g7, .int .i64 z.p] 26)) (lt_of_a10 HZ6.out))
      have HB7 := Lib.hid (HB6.out.alloc HB6.out.size (Obj.cells #[.int .i8 z.f, .int .u16 z.g0, .int .u16 z.g1, .int .u16 z.g2, .int .u16 z.g3, .int .u16 z.g4, .int .u16 z.g5, .int .u16 z.g6, .int .u16 z.g7, .int .i64 z.p] 26))
      obtain ⟨b4, hb4e⟩ : ∃ b, w6.heap.size = b := ⟨_, rfl⟩
      rw [hb4e] at hZ ⊢
      clear hb4e
      generalize w6.alloc (Obj.cells #[.int .i8 z.f, .int .u16 z.g0, .int .u16 z.g1, .int .u16 z.g2, .int .u16 z.g3, .int .u16 z.g4, .int .u16 z.g5, .int .u16 z.g6, .int .u16 z.g7, .int .i64 z.p] 26) = U at *
      have HQ7 := Lib.hid hZ
      clear hZ HX6 HY6 HZ6 HB6
      have HK := Lib.hid (show ∀ W, Below U.heap.size U W → (W.cell? ⟨w.heap.size, 0, none⟩ = some (.int .i8 x.f) ∧ W.cell? ⟨w.heap.size, 1, none⟩ = some (.int .u16 x.g0) ∧ W.cell? ⟨w.heap.size, 2, none⟩ = some (.int .u16 x.g1) ∧ W.cell? ⟨w.heap.size, 3, none⟩ = some (.int .u16 x.g2) ∧ W.cell? ⟨w.heap.size, 4, none⟩ = some (.int .u16 x.g3) ∧ W.cell? ⟨w.heap.size, 5, none⟩ = some (.int .u16 x.g4) ∧ W.cell? ⟨w.heap.size, 6, none⟩ = some (.int .u16 x.g5) ∧ W.cell? ⟨w.heap.size, 7, none⟩ = some (.int .u16 x.g6) ∧ W.cell? ⟨w.heap.size, 8, none⟩ = some (.int .u16 x.g7) ∧ W.cell? ⟨w.heap.size, 9, none⟩ = some (.int .i64 x.p)) ∧ (W.cell? ⟨(w.heap.size + 1), 0, none⟩ = some (.int .i8 y.f) ∧ W.cell? ⟨(w.heap.size + 1), 1, none⟩ = some (.int .u16 y.g0) ∧ W.cell? ⟨(w.heap.size + 1), 2, none⟩ = some (.int .u16 y.g1) ∧ W.cell? ⟨(w.heap.size + 1), 3, none⟩ = some (.int .u16 y.g2) ∧ W.cell? ⟨(w.heap.size + 1), 4, none⟩ = some (.int .u16 y.g3) ∧ W.cell? ⟨(w.heap.size + 1), 5, none⟩ = some (.int .u16 y.g4) ∧ W.cell? ⟨(w.heap.size + 1), 6, none⟩ = some (.int .u16 y.g5) ∧ W.cell? ⟨(w.heap.size + 1), 7, none⟩ = some (.int .u16 y.g6) ∧ W.cell? ⟨(w.heap.size + 1), 8, none⟩ = some (.int .u16 y.g7) ∧ W.cell? ⟨(w.heap.size + 1), 9, none⟩ = some (.int .i64 y.p)) ∧ (W.cell? ⟨b3, 0, none⟩ = some (.int .i8 z.f) ∧ W.cell? ⟨b3, 1, none⟩ = some (.int .u16 z.g0) ∧ W.cell? ⟨b3, 2, none⟩ = some (.int .u16 z.g1) ∧ W.cell? ⟨b3, 3, none⟩ = some (.int .u16 z.g2) ∧ W.cell? ⟨b3, 4, none⟩ = some (.int .u16 z.g3) ∧ W.cell? ⟨b3, 5, none⟩ = some (.int .u16 z.g4) ∧ W.cell? ⟨b3, 6, none⟩ = some (.int .u16 z.g5) ∧ W.cell? ⟨b3, 7, none⟩ = some (.int .u16 z.g6) ∧ W.cell? ⟨b3, 8, none⟩ = some (.int .u16 z.g7) ∧ W.cell? ⟨b3, 9, none⟩ = some (.int .i64 z.p)) ∧ (W.cell? ⟨b4, 0, none⟩ = some (.int .i8 z.f) ∧ W.cell? ⟨b4, 1, none⟩ = some (.int .u16 z.g0) ∧ W.cell? ⟨b4, 2, none⟩ = some (.int .u16 z.g1) ∧ W.cell? ⟨b4, 3, none⟩ = some (.int .u16 z.g2) ∧ W.cell? ⟨b4, 4, none⟩ = some (.int .u16 z.g3) ∧ W.cell? ⟨b4, 5, none⟩ = some (.int .u16 z.g4) ∧ W.cell? ⟨b4, 6, none⟩ = some (.int .u16 z.g5) ∧ W.cell? ⟨b4, 7, none⟩ = some (.int .u16 z.g6) ∧ W.cell? ⟨b4, 8, none⟩ = some (.int .u16 z.g7) ∧ W.cell? ⟨b4, 9, none⟩ = some (.int .i64 z.p)) from fun W h => by
        obtain ⟨c0, c1, c2, c3, c4, c5, c6, c7, c8, c9, _⟩ := HX7.out.below h (lt_of_a10 HX7.out)
        obtain ⟨d0, d1, d2, d3, d4, d5, d6, d7, d8, d9, _⟩ := HY7.out.below h (lt_of_a10 HY7.out)
        obtain ⟨e0, e1, e2, e3, e4, e5, e6, e7, e8, e9, _⟩ := HZ7.out.below h (lt_of_a10 HZ7.out)
        obtain ⟨f0, f1, f2, f3, f4, f5, f6, f7, f8, f9, _⟩ := HQ7.out.below h (lt_of_a10 HQ7.out)
        exact ⟨⟨c0, c1, c2, c3, c4, c5, c6, c7, c8, c9⟩, ⟨d0, d1, d2, d3, d4, d5, d6, d7, d8, d9⟩, ⟨e0, e1, e2, e3, e4, e5, e6, e7, e8, e9⟩, ⟨f0, f1, f2, f3, f4, f5, f6, f7, f8, f9⟩⟩)
      have hS0 := HK.out _ (Below.refl U.heap.size U)
      have hW0 := Lib.hid ((Below.refl U.heap.size U).drew)
      have hM1 : ∀ (W : World) (n : Nat), n < W.heap.size → AdsAt W n 0 [x] → Calls Tryz.prog 11 #[.slice (some ⟨n, 0, none⟩) 1 1] W fun e w' => e = .returned (.bool (mayP x)) ∧ Below W.heap.size W w' := fun W n h h2 => by
        have k := may_any [x] n 0 1 W (by simp) h h2
        rw [show [x].all mayP = mayP x by simp] at k
        exact k
      have hM2 : ∀ (W : World) (n : Nat), n < W.heap.size → AdsAt W n 0 [x] → Calls Tryz.prog 12 #[.slice (some ⟨n, 0, none⟩) 1 1] W fun e w' => e = .returned (.bool (mayP x)) ∧ Below W.heap.size W w' := fun W n h h2 => by
        have k := refMay_any [x] (some ⟨n, 0, none⟩) 1 W (by simp) (fun _ => ⟨n, 0, rfl, h, h2⟩)
        rw [show [x].all mayP = mayP x by simp] at k
        exact k
      obtain ⟨q1, hq1⟩ : ∃ q, mayP x = q := ⟨_, rfl⟩
      obtain ⟨q2, hq2⟩ : ∃ q, l.all mayP = q := ⟨_, rfl⟩
      obtain ⟨q3, hq3⟩ : ∃ q, lessP x y = q := ⟨_, rfl⟩
      have HM3 := Lib.hid (fun W (h : Below U.heap.size U W) => may_in l a c W (by omega) (HA.out.below (HB7.out.trans (h.mono HB7.out.size))))
      have HM4 := Lib.hid (fun W (h : Below U.heap.size U W) => refMay_any l a c W (by omega) (HA.out.below (HB7.out.trans (h.mono HB7.out.size))))
      have HL1 := Lib.hid (less_any x y)
      have HL2 := Lib.hid (refLess_any x y)
      rw [hq1] at hM1 hM2
      have HN1 := Lib.hid (show AdsAt (U.alloc (Obj.cells #[.int .i8 x.f, .int .u16 x.g0, .int .u16 x.g1, .int .u16 x.g2, .int .u16 x.g3, .int .u16 x.g4, .int .u16 x.g5, .int .u16 x.g6, .int .u16 x.g7, .int .i64 x.p] 26)).drew U.heap.size 0 [x] from adsAt_drew (adsAt_new x U U.heap.size rfl _ rfl 26))
      have HN2 := Lib.hid (show AdsAt ((U.alloc (Obj.cells #[.int .i8 x.f, .int .u16 x.g0, .int .u16 x.g1, .int .u16 x.g2, .int .u16 x.g3, .int .u16 x.g4, .int .u16 x.g5, .int .u16 x.g6, .int .u16 x.g7, .int .i64 x.p] 26)).alloc (Obj.cells #[.int .i8 x.f, .int .u16 x.g0, .int .u16 x.g1, .int .u16 x.g2, .int .u16 x.g3, .int .u16 x.g4, .int .u16 x.g5, .int .u16 x.g6, .int .u16 x.g7, .int .i64 x.p] 26)).drew U.heap.size 0 [x] from adsAt_drew (AdsAt.below (adsAt_new x U U.heap.size rfl _ rfl 26) ((Below.refl (U.alloc (Obj.cells #[.int .i8 x.f, .int .u16 x.g0, .int .u16 x.g1, .int .u16 x.g2, .int .u16 x.g3, .int .u16 x.g4, .int .u16 x.g5, .int .u16 x.g6, .int .u16 x.g7, .int .i64 x.p] 26)).heap.size (U.alloc (Obj.cells #[.int .i8 x.f, .int .u16 x.g0, .int .u16 x.g1, .int .u16 x.g2, .int .u16 x.g3, .int .u16 x.g4, .int .u16 x.g5, .int .u16 x.g6, .int .u16 x.g7, .int .i64 x.p] 26))).alloc (Nat.le_refl _) (Obj.cells #[.int .i8 x.f, .int .u16 x.g0, .int .u16 x.g1, .int .u16 x.g2, .int .u16 x.g3, .int .u16 x.g4, .int .u16 x.g5, .int .u16 x.g6, .int .u16 x.g7, .int .i64 x.p] 26)) (by simp)))
      have HN3 := Lib.hid (show AdsAt ((U.alloc (Obj.cells #[.int .i8 x.f, .int .u16 x.g0, .int .u16 x.g1, .int .u16 x.g2, .int .u16 x.g3, .int .u16 x.g4, .int .u16 x.g5, .int .u16 x.g6, .int .u16 x.g7, .int .i64 x.p] 26)).alloc (Obj.cells #[.int .i8 x.f, .int .u16 x.g0, .int .u16 x.g1, .int .u16 x.g2, .int .u16 x.g3, .int .u16 x.g4, .int .u16 x.g5, .int .u16 x.g6, .int .u16 x.g7, .int .i64 x.p] 26)).drew (U.heap.size + 1) 0 [x] from adsAt_drew (adsAt_new x (U.alloc (Obj.cells #[.int .i8 x.f, .int .u16 x.g0, .int .u16 x.g1, .int .u16 x.g2, .int .u16 x.g3, .int .u16 x.g4, .int .u16 x.g5, .int .u16 x.g6, .int .u16 x.g7, .int .i64 x.p] 26)) (U.heap.size + 1) (by simp) _ rfl 26))
      have HD1 := Lib.hid (((Below.refl U.heap.size U).alloc (Nat.le_refl _) (Obj.cells #[.int .i8 x.f, .int .u16 x.g0, .int .u16 x.g1, .int .u16 x.g2, .int .u16 x.g3, .int .u16 x.g4, .int .u16 x.g5, .int .u16 x.g6, .int .u16 x.g7, .int .i64 x.p] 26)).drew)
      have HD2 := Lib.hid ((((Below.refl U.heap.size U).alloc (Nat.le_refl _) (Obj.cells #[.int .i8 x.f, .int .u16 x.g0, .int .u16 x.g1, .int .u16 x.g2, .int .u16 x.g3, .int .u16 x.g4, .int .u16 x.g5, .int .u16 x.g6, .int .u16 x.g7, .int .i64 x.p] 26)).alloc (by simp) (Obj.cells #[.int .i8 x.f, .int .u16 x.g0, .int .u16 x.g1, .int .u16 x.g2, .int .u16 x.g3, .int .u16 x.g4, .int .u16 x.g5, .int .u16 x.g6, .int .u16 x.g7, .int .i64 x.p] 26)).drew)
      have HC1 := Lib.hid (hM1 (U.alloc (Obj.cells #[.int .i8 x.f, .int .u16 x.g0, .int .u16 x.g1, .int .u16 x.g2, .int .u16 x.g3, .int .u16 x.g4, .int .u16 x.g5, .int .u16 x.g6, .int .u16 x.g7, .int .i64 x.p] 26)).drew U.heap.size (by show _ < (U.alloc (Obj.cells #[.int .i8 x.f, .int .u16 x.g0, .int .u16 x.g1, .int .u16 x.g2, .int .u16 x.g3, .int .u16 x.g4, .int .u16 x.g5, .int .u16 x.g6, .int .u16 x.g7, .int .i64 x.p] 26)).heap.size; simp) HN1.out)
      have HC2 := Lib.hid (hM1 ((U.alloc (Obj.cells #[.int .i8 x.f, .int .u16 x.g0, .int .u16 x.g1, .int .u16 x.g2, .int .u16 x.g3, .int .u16 x.g4, .int .u16 x.g5, .int .u16 x.g6, .int .u16 x.g7, .int .i64 x.p] 26)).alloc (Obj.cells #[.int .i8 x.f, .int .u16 x.g0, .int .u16 x.g1, .int .u16 x.g2, .int .u16 x.g3, .int .u16 x.g4, .int .u16 x.g5, .int .u16 x.g6, .int .u16 x.g7, .int .i64 x.p] 26)).drew U.heap.size (by show _ < ((U.alloc (Obj.cells #[.int .i8 x.f, .int .u16 x.g0, .int .u16 x.g1, .int .u16 x.g2, .int .u16 x.g3, .int .u16 x.g4, .int .u16 x.g5, .int .u16 x.g6, .int .u16 x.g7, .int .i64 x.p] 26)).alloc (Obj.cells #[.int .i8 x.f, .int .u16 x.g0, .int .u16 x.g1, .int .u16 x.g2, .int .u16 x.g3, .int .u16 x.g4, .int .u16 x.g5, .int .u16 x.g6, .int .u16 x.g7, .int .i64 x.p] 26)).heap.size; simp; omega) HN2.out)
      have HC3 := Lib.hid (hM1 ((U.alloc (Obj.cells #[.int .i8 x.f, .int .u16 x.g0, .int .u16 x.g1, .int .u16 x.g2, .int .u16 x.g3, .int .u16 x.g4, .int .u16 x.g5, .int .u16 x.g6, .int .u16 x.g7, .int .i64 x.p] 26)).alloc (Obj.cells #[.int .i8 x.f, .int .u16 x.g0, .int .u16 x.g1, .int .u16 x.g2, .int .u16 x.g3, .int .u16 x.g4, .int .u16 x.g5, .int .u16 x.g6, .int .u16 x.g7, .int .i64 x.p] 26)).drew (U.heap.size + 1) (by show _ < ((U.alloc (Obj.cells #[.int .i8 x.f, .int .u16 x.g0, .int .u16 x.g1, .int .u16 x.g2, .int .u16 x.g3, .int .u16 x.g4, .int .u16 x.g5, .int .u16 x.g6, .int .u16 x.g7, .int .i64 x.p] 26)).alloc (Obj.cells #[.int .i8 x.f, .int .u16 x.g0, .int .u16 x.g1, .int .u16 x.g2, .int .u16 x.g3, .int .u16 x.g4, .int .u16 x.g5, .int .u16 x.g6, .int .u16 x.g7, .int .i64 x.p] 26)).heap.size; simp) HN3.out)
      have HR1 := Lib.hid (fun (W : World) => hM2 (W.alloc (Obj.cells #[.int .i8 x.f, .int .u16 x.g0, .int .u16 x.g1, .int .u16 x.g2, .int .u16 x.g3, .int .u16 x.g4, .int .u16 x.g5, .int .u16 x.g6, .int .u16 x.g7, .int .i64 x.p] 26)) W.heap.size (by simp) (adsAt_new x W W.heap.size rfl _ rfl 26))
      have HM2 := Lib.hid hM2
      clear hM1 hM2
      rw [hq2] at HM3 HM4
      rw [hq3] at HL1 HL2
      simp only [Ad.v, Ad.enc] at HL1 HL2
      have HNq := Lib.hid (neq_self z)
      have hnq := neq_self z
      have hgd := guard_addr
      clear hq1 hq2 hq3
      go_region_held3 (fun w' => (w'.cell? ⟨w.heap.size, 0, none⟩ = some (.int .i8 x.f) ∧ w'.cell? ⟨w.heap.size, 1, none⟩ = some (.int .u16 x.g0) ∧ w'.cell? ⟨w.heap.size, 2, none⟩ = some (.int .u16 x.g1) ∧ w'.cell? ⟨w.heap.size, 3, none⟩ = some (.int .u16 x.g2) ∧ w'.cell? ⟨w.heap.size, 4, none⟩ = some (.int .u16 x.g3) ∧ w'.cell? ⟨w.heap.size, 5, none⟩ = some (.int .u16 x.g4) ∧ w'.cell? ⟨w.heap.size, 6, none⟩ = some (.int .u16 x.g5) ∧ w'.cell? ⟨w.heap.size, 7, none⟩ = some (.int .u16 x.g6) ∧ w'.cell? ⟨w.heap.size, 8, none⟩ = some (.int .u16 x.g7) ∧ w'.cell? ⟨w.heap.size, 9, none⟩ = some (.int .i64 x.p)) ∧ (w'.cell? ⟨(w.heap.size + 1), 0, none⟩ = some (.int .i8 y.f) ∧ w'.cell? ⟨(w.heap.size + 1), 1, none⟩ = some (.int .u16 y.g0) ∧ w'.cell? ⟨(w.heap.size + 1), 2, none⟩ = some (.int .u16 y.g1) ∧ w'.cell? ⟨(w.heap.size + 1), 3, none⟩ = some (.int .u16 y.g2) ∧ w'.cell? ⟨(w.heap.size + 1), 4, none⟩ = some (.int .u16 y.g3) ∧ w'.cell? ⟨(w.heap.size + 1), 5, none⟩ = some (.int .u16 y.g4) ∧ w'.cell? ⟨(w.heap.size + 1), 6, none⟩ = some (.int .u16 y.g5) ∧ w'.cell? ⟨(w.heap.size + 1), 7, none⟩ = some (.int .u16 y.g6) ∧ w'.cell? ⟨(w.heap.size + 1), 8, none⟩ = some (.int .u16 y.g7) ∧ w'.cell? ⟨(w.heap.size + 1), 9, none⟩ = some (.int .i64 y.p)) ∧ (w'.cell? ⟨b3, 0, none⟩ = some (.int .i8 z.f) ∧ w'.cell? ⟨b3, 1, none⟩ = some (.int .u16 z.g0) ∧ w'.cell? ⟨b3, 2, none⟩ = some (.int .u16 z.g1) ∧ w'.cell? ⟨b3, 3, none⟩ = some (.int .u16 z.g2) ∧ w'.cell? ⟨b3, 4, none⟩ = some (.int .u16 z.g3) ∧ w'.cell? ⟨b3, 5, none⟩ = some (.int .u16 z.g4) ∧ w'.cell? ⟨b3, 6, none⟩ = some (.int .u16 z.g5) ∧ w'.cell? ⟨b3, 7, none⟩ = some (.int .u16 z.g6) ∧ w'.cell? ⟨b3, 8, none⟩ = some (.int .u16 z.g7) ∧ w'.cell? ⟨b3, 9, none⟩ = some (.int .i64 z.p)) ∧ (w'.cell? ⟨b4, 0, none⟩ = some (.int .i8 z.f) ∧ w'.cell? ⟨b4, 1, none⟩ = some (.int .u16 z.g0) ∧ w'.cell? ⟨b4, 2, none⟩ = some (.int .u16 z.g1) ∧ w'.cell? ⟨b4, 3, none⟩ = some (.int .u16 z.g2) ∧ w'.cell? ⟨b4, 4, none⟩ = some (.int .u16 z.g3) ∧ w'.cell? ⟨b4, 5, none⟩ = some (.int .u16 z.g4) ∧ w'.cell? ⟨b4, 6, none⟩ = some (.int .u16 z.g5) ∧ w'.cell? ⟨b4, 7, none⟩ = some (.int .u16 z.g6) ∧ w'.cell? ⟨b4, 8, none⟩ = some (.int .u16 z.g7) ∧ w'.cell? ⟨b4, 9, none⟩ = some (.int .i64 z.p))) (first | assumption | go_keep) (first
        | (go_at_call 11; with_reducible refine (HM3.out _ hWb.out).mono ?_; rintro e v3 ⟨rfl, hv3⟩; have hWc := Lib.hid (hWb.out.trans (hv3.mono hWb.out.size)); have hS3 := HK.out _ hWc.out)
        | (go_at_call 11; with_reducible refine HC1.out.mono ?_; rintro e v1 ⟨rfl, hv1⟩; have hWa := Lib.hid (HD1.out.trans (hv1.mono HD1.out.size)); have hS1 := HK.out _ hWa.out)
        | (go_at_call 11; with_reducible refine HC2.out.mono ?_; rintro e v1 ⟨rfl, hv1⟩; have hWa := Lib.hid (HD2.out.trans (hv1.mono HD2.out.size)); have hS1 := HK.out _ hWa.out)
        | (go_at_call 11; with_reducible refine HC3.out.mono ?_; rintro e v1 ⟨rfl, hv1⟩; have hWa := Lib.hid (HD2.out.trans (hv1.mono HD2.out.size)); have hS1 := HK.out _ hWa.out)
        | (go_at_call 12; with_reducible refine (HM4.out _ hWc.out).mono ?_; rintro e v4 ⟨rfl, hv4⟩; have hWd := Lib.hid (hWc.out.trans (hv4.mono hWc.out.size)); have hS4 := HK.out _ hWd.out)
        | (go_at_call 12; with_reducible refine (HR1.out v1).mono ?_; rintro e v2 ⟨rfl, hv2⟩; have hWb := Lib.hid ((hWa.out.alloc hWa.out.size _).trans (hv2.mono (hWa.out.alloc hWa.out.size _).size)); have hS2 := HK.out _ hWb.out)
        | (go_at_call 12; have hlv := hv1.size; have hlt1 : U.heap.size + 1 < v1.heap.size := (by simp at hlv; omega); with_reducible refine (HM2.out v1 (U.heap.size + 1) hlt1 (HN3.out.below hv1 (by simp))).mono ?_; rintro e v2 ⟨rfl, hv2⟩; have hWb := Lib.hid (hWa.out.trans (hv2.mono hWa.out.size)); have hS2 := HK.out _ hWb.out)
        | (go_at_call 12; have hlv := hv1.size; have hlt1 : U.heap.size < v1.heap.size := (by simp at hlv; omega); with_reducible refine (HM2.out v1 U.heap.size hlt1 (HN2.out.below hv1 (by simp; omega))).mono ?_; rintro e v2 ⟨rfl, hv2⟩; have hWb := Lib.hid (hWa.out.trans (hv2.mono hWa.out.size)); have hS2 := HK.out _ hWb.out)
        | (go_at_call 13; with_reducible refine (HL1.out _).mono ?_; rintro e v5 ⟨rfl, hv5, _⟩; have hWe := Lib.hid (hWd.out.trans (hv5.mono hWd.out.size)); have hS5 := HK.out _ hWe.out)
        | (go_at_call 14; with_reducible refine (HL2.out _).mono ?_; rintro e v6 ⟨rfl, hv6⟩; have hWf := Lib.hid (hWe.out.trans (hv6.mono hWe.out.size)); have hS6 := HK.out _ hWf.out))
      all_goals
        have HBF := Lib.hid (HB7.out.trans (hWf.out.mono HB7.out.size))
        clear hnq hgd hS0 hS1 hS2 hS3 hS4 hS5 hS6 HC1 HC2 HC3 HD1 HD2 HN1 HN2 HN3 HR1 HM2 HM3 HM4 HL1 HL2 HK
        have HQ1 := Lib.hid (sorted_any l a c v6 (by omega) (HA.out.below HBF.out))
        go_wp2_with fail
        with_reducible refine HQ1.out.mono ?_
        rintro e u1 ⟨a1, k1, rfl, hr1, hu1⟩
        have HU1 := Lib.hid (HBF.out.trans (hu1.mono HBF.out.size))
        have HR1 := Lib.hid hr1
        clear hu1 hr1 HQ1
        have HQ2 := Lib.hid (refSorted_any l a c u1 (by omega) (HA.out.below HU1.out))
        go_wp2_with fail
        with_reducible refine HQ2.out.mono ?_
        rintro e u2 ⟨w2v, rfl, hv2, hu2⟩
        obtain ⟨a2, k2, rfl, hr2, _⟩ := own_row (l := sortP l) (by rw [sort_len]; exact hv2)
        have HU2 := Lib.hid (HU1.out.trans (hu2.mono HU1.out.size))
        have hsm := same_eq (sortP l) a1 a2 k1 k2 u2 (by rw [sort_len]; omega) (HR1.out.below hu2) hr2
        rw [sort_len] at hsm ⊢
        have HQ3 := Lib.hid hsm
        clear hsm hu2 hv2 hr2 HQ2 HR1
        go_wp2_with fail
        with_reducible refine HQ3.out.mono ?_
        rintro e u3 ⟨rfl, hu3⟩
        have HU3 := Lib.hid (HU2.out.trans (hu3.mono HU2.out.size))
        clear hu3 HQ3
        have HQ4 := Lib.hid (of_in l a c fam u3 (by omega) (HA.out.below HU3.out))
        go_wp2_with fail
        with_reducible refine HQ4.out.mono ?_
        rintro e u4 ⟨w4v, rfl, hv4, hu4⟩
        obtain ⟨a4, k4, rfl, hr4, _⟩ := own_row hv4
        have HU4 := Lib.hid (HU3.out.trans (hu4.mono HU3.out.size))
        have HR4 := Lib.hid hr4
        clear hu4 hv4 hr4 HQ4
        have HQ5 := Lib.hid (refOf_any l a c fam u4 (by omega) (HA.out.below HU4.out))
        go_wp2_with fail
        with_reducible refine HQ5.out.mono ?_
        rintro e u5 ⟨w5v, rfl, hv5', hu5⟩
        obtain ⟨a5, k5, rfl, hr5, _⟩ := own_row hv5'
        have HU5 := Lib.hid (HU4.out.trans (hu5.mono HU4.out.size))
        have HQ6 := Lib.hid (same_eq (l.filter (·.f == fam)) a4 a5 k4 k5 u5 (by have := List.length_filter_le (fun y : Ad => y.f == fam) l; omega) (HR4.out.below hu5) hr5)
        clear hu5 hv5' hr5 HQ5 HR4
        go_wp2_with fail
        with_reducible refine HQ6.out.mono ?_
        rintro e u6 ⟨rfl, hu6⟩
        have HU6 := Lib.hid (HU5.out.trans (hu6.mono HU5.out.size))
        clear hu6 HQ6
        have HQ7 := Lib.hid (wakes_any u6 (HE.out.below HU6.out))
        go_wp2_with fail
        with_reducible refine HQ7.out.mono ?_
        rintro e u7 ⟨rfl, hu7⟩
        go_wp2_with fail
        go_ret
        exact ⟨rfl, HU6.out.trans (hu7.mono HU6.out.size)⟩
end Go.Proofs.YtbejnnkdgcelmaaGreatDoor
