/- The ducts of a goroutine, made. -/
import Derived.Test.YtomiajgedcpjiaaNum
set_option linter.unusedSimpArgs false
set_option linter.unusedVariables false
namespace Go.Proofs.Ytomiajgedcpjiaa
open Go.RowKit Go.Proofs.Ytomiajgedcpjiaa.Kind

theorem below_grown {B : Nat} {a w w' : World} {row : Option Nat} (h : Below B a w) (hg : w.grownBy w' row) (hB : B ≤ w.heap.size) (hr : ∀ k, row = some k → B ≤ k) : Below B a w' := h.grown hg hB hr

set_option maxHeartbeats 8000000 in
set_option maxRecDepth 1000000 in
theorem own_neg (n : Int) (h : n < 0) (w : World) :
    Calls Try.prog 19 #[.int .i64 n] w fun e w' => ∃ a c, e = .returned (.slice a 5 c) ∧ DK.RowC w' a c (dvs 0) ∧ Below w.heap.size w w' := by
  go_enter Try.func19, Try.ntmps19
  go_wp2_with fail
  go_loopw [4, 15] (fun u4 u15 wr => ∃ (k c : Nat) (a : Option Addr), u15 = .int .i64 k ∧ k ≤ 5 ∧ u4 = .slice a k c ∧ Hid (DK.Own wr (w.heap.size + 1) (.slice a k c) ((dvs 0).take k)) ∧ Below (w.heap.size + 1) (w.alloc (.cells #[.int .i64 0, .slice none 0 0, .bool false, .int .i64 0, .slice none 0 0, .bool false, .int .i64 1, .slice none 0 0, .bool false, .int .i64 1, .slice none 0 0, .bool false, .int .i64 0, .slice none 0 0, .bool false] 58)) wr) (fun _ u _ => 5 - (intOf u).toNat)
  case atStart => exact ⟨0, 0, none, rfl, by omega, rfl, Lib.hid (own_nil _ _), Below.refl _ _⟩
  case round =>
    obtain ⟨k, c, a, rfl, hk, rfl, hO, hb⟩ := hrel
    have HO := Lib.hid hO.out
    have HB := Lib.hid hb
    have hbs : w.heap.size + 1 ≤ wr.heap.size := by have := hb.size; simpa using this
    clear hO hb
    rcases (show k = 0 ∨ k = 1 ∨ k = 2 ∨ k = 3 ∨ k = 4 ∨ k = 5 by omega) with rfl | rfl | rfl | rfl | rfl | rfl
    · obtain ⟨⟨p0, p1, p2⟩, ⟨p3, p4, p5⟩, ⟨p6, p7, p8⟩, ⟨p9, p10, p11⟩, ⟨p12, p13, p14⟩⟩ := box15 ((HB.out.block _ (by omega)).trans (laid1 w _))
      go_wp2_with (at_builtin; refine DK.wpList_append_owned rfl _ _ rfl (w.heap.size + 1) (.slice a 0 c) rfl ((dvs 0).take 0) (HO.out.below ((Below.refl _ _).alloc (Nat.le_refl _) _) (Nat.le_refl _)) (some ⟨wr.heap.size, 0, none⟩) 1 1 rfl [⟨0, none, 0, 0, false⟩] rfl (rowC_at (K := DK) wr 26 [⟨0, none, 0, 0, false⟩] _ _ 1 rfl rfl rfl (by simp)) (by simp [dvs]) (by simp; omega) ((dvs 0).take 1) rfl ?_; intro a1 c1 w1 hO1 hG1; have HO1 := Lib.hid hO1; have HB1 := Lib.hid (below_grown ((Below.refl (w.heap.size + 1) wr).alloc (by omega) _) hG1 (by simp; omega) (fun j hj => (HO.out.lt j hj).1)); clear hO1 hG1)
      go_roundw
      case rel => exact ⟨1, c1, a1, by go_num, by omega, rfl, HO1, HB.out.trans HB1.out⟩
      case measure => simp [intOf]
    · obtain ⟨⟨p0, p1, p2⟩, ⟨p3, p4, p5⟩, ⟨p6, p7, p8⟩, ⟨p9, p10, p11⟩, ⟨p12, p13, p14⟩⟩ := box15 ((HB.out.block _ (by omega)).trans (laid1 w _))
      go_wp2_with (at_builtin; refine DK.wpList_append_owned rfl _ _ rfl (w.heap.size + 1) (.slice a 1 c) rfl ((dvs 0).take 1) (HO.out.below ((Below.refl _ _).alloc (Nat.le_refl _) _) (Nat.le_refl _)) (some ⟨wr.heap.size, 0, none⟩) 1 1 rfl [⟨0, none, 0, 0, false⟩] rfl (rowC_at (K := DK) wr 26 [⟨0, none, 0, 0, false⟩] _ _ 1 rfl rfl rfl (by simp)) (by simp [dvs]) (by simp; omega) ((dvs 0).take 2) rfl ?_; intro a1 c1 w1 hO1 hG1; have HO1 := Lib.hid hO1; have HB1 := Lib.hid (below_grown ((Below.refl (w.heap.size + 1) wr).alloc (by omega) _) hG1 (by simp; omega) (fun j hj => (HO.out.lt j hj).1)); clear hO1 hG1)
      go_roundw
      case rel => exact ⟨2, c1, a1, by go_num, by omega, rfl, HO1, HB.out.trans HB1.out⟩
      case measure => simp [intOf]
    · obtain ⟨⟨p0, p1, p2⟩, ⟨p3, p4, p5⟩, ⟨p6, p7, p8⟩, ⟨p9, p10, p11⟩, ⟨p12, p13, p14⟩⟩ := box15 ((HB.out.block _ (by omega)).trans (laid1 w _))
      go_wp2_with (at_builtin; refine DK.wpList_append_owned rfl _ _ rfl (w.heap.size + 1) (.slice a 2 c) rfl ((dvs 0).take 2) (HO.out.below ((Below.refl _ _).alloc (Nat.le_refl _) _) (Nat.le_refl _)) (some ⟨wr.heap.size, 0, none⟩) 1 1 rfl [⟨1, none, 0, 0, false⟩] rfl (rowC_at (K := DK) wr 26 [⟨1, none, 0, 0, false⟩] _ _ 1 rfl rfl rfl (by simp)) (by simp [dvs]) (by simp; omega) ((dvs 0).take 3) rfl ?_; intro a1 c1 w1 hO1 hG1; have HO1 := Lib.hid hO1; have HB1 := Lib.hid (below_grown ((Below.refl (w.heap.size + 1) wr).alloc (by omega) _) hG1 (by simp; omega) (fun j hj => (HO.out.lt j hj).1)); clear hO1 hG1)
      go_roundw
      case rel => exact ⟨3, c1, a1, by go_num, by omega, rfl, HO1, HB.out.trans HB1.out⟩
      case measure => simp [intOf]
    · obtain ⟨⟨p0, p1, p2⟩, ⟨p3, p4, p5⟩, ⟨p6, p7, p8⟩, ⟨p9, p10, p11⟩, ⟨p12, p13, p14⟩⟩ := box15 ((HB.out.block _ (by omega)).trans (laid1 w _))
      go_wp2_with (at_builtin; refine DK.wpList_append_owned rfl _ _ rfl (w.heap.size + 1) (.slice a 3 c) rfl ((dvs 0).take 3) (HO.out.below ((Below.refl _ _).alloc (Nat.le_refl _) _) (Nat.le_refl _)) (some ⟨wr.heap.size, 0, none⟩) 1 1 rfl [⟨1, none, 0, 0, false⟩] rfl (rowC_at (K := DK) wr 26 [⟨1, none, 0, 0, false⟩] _ _ 1 rfl rfl rfl (by simp)) (by simp [dvs]) (by simp; omega) ((dvs 0).take 4) rfl ?_; intro a1 c1 w1 hO1 hG1; have HO1 := Lib.hid hO1; have HB1 := Lib.hid (below_grown ((Below.refl (w.heap.size + 1) wr).alloc (by omega) _) hG1 (by simp; omega) (fun j hj => (HO.out.lt j hj).1)); clear hO1 hG1)
      go_roundw
      case rel => exact ⟨4, c1, a1, by go_num, by omega, rfl, HO1, HB.out.trans HB1.out⟩
      case measure => simp [intOf]
    · obtain ⟨⟨p0, p1, p2⟩, ⟨p3, p4, p5⟩, ⟨p6, p7, p8⟩, ⟨p9, p10, p11⟩, ⟨p12, p13, p14⟩⟩ := box15 ((HB.out.block _ (by omega)).trans (laid1 w _))
      go_wp2_with (at_builtin; refine DK.wpList_append_owned rfl _ _ rfl (w.heap.size + 1) (.slice a 4 c) rfl ((dvs 0).take 4) (HO.out.below ((Below.refl _ _).alloc (Nat.le_refl _) _) (Nat.le_refl _)) (some ⟨wr.heap.size, 0, none⟩) 1 1 rfl [⟨0, none, 0, 0, false⟩] rfl (rowC_at (K := DK) wr 26 [⟨0, none, 0, 0, false⟩] _ _ 1 rfl rfl rfl (by simp)) (by simp [dvs]) (by simp; omega) ((dvs 0).take 5) rfl ?_; intro a1 c1 w1 hO1 hG1; have HO1 := Lib.hid hO1; have HB1 := Lib.hid (below_grown ((Below.refl (w.heap.size + 1) wr).alloc (by omega) _) hG1 (by simp; omega) (fun j hj => (HO.out.lt j hj).1)); clear hO1 hG1)
      go_roundw
      case rel => exact ⟨5, c1, a1, by go_num, by omega, rfl, HO1, HB.out.trans HB1.out⟩
      case measure => simp [intOf]
    · go_wp2_with fail
      go_ret
      exact ⟨a, c, rfl, HO.out.row, ((Below.refl _ _).alloc (Nat.le_refl _) _).trans (HB.out.mono (by omega))⟩

set_option maxHeartbeats 8000000 in
set_option maxRecDepth 1000000 in
theorem own_big (n : Int) (h : 0 ≤ n) (h2 : 64 < n) (w : World) :
    Calls Try.prog 19 #[.int .i64 n] w fun e w' => ∃ a c, e = .returned (.slice a 5 c) ∧ DK.RowC w' a c (dvs 64) ∧ Below w.heap.size w w' := by
  go_enter Try.func19, Try.ntmps19
  go_wp2_with fail
  go_loopw [4, 15] (fun u4 u15 wr => ∃ (k c : Nat) (a : Option Addr), u15 = .int .i64 k ∧ k ≤ 5 ∧ u4 = .slice a k c ∧ Hid (DK.Own wr (w.heap.size + 1) (.slice a k c) ((dvs 64).take k)) ∧ Below (w.heap.size + 1) (w.alloc (.cells #[.int .i64 0, .slice none 0 0, .bool false, .int .i64 0, .slice none 0 0, .bool false, .int .i64 1, .slice none 0 0, .bool false, .int .i64 1, .slice none 0 0, .bool false, .int .i64 64, .slice none 0 0, .bool false] 58)) wr) (fun _ u _ => 5 - (intOf u).toNat)
  case atStart => exact ⟨0, 0, none, rfl, by omega, rfl, Lib.hid (own_nil _ _), Below.refl _ _⟩
  case round =>
    obtain ⟨k, c, a, rfl, hk, rfl, hO, hb⟩ := hrel
    have HO := Lib.hid hO.out
    have HB := Lib.hid hb
    have hbs : w.heap.size + 1 ≤ wr.heap.size := by have := hb.size; simpa using this
    clear hO hb
    rcases (show k = 0 ∨ k = 1 ∨ k = 2 ∨ k = 3 ∨ k = 4 ∨ k = 5 by omega) with rfl | rfl | rfl | rfl | rfl | rfl
    · obtain ⟨⟨p0, p1, p2⟩, ⟨p3, p4, p5⟩, ⟨p6, p7, p8⟩, ⟨p9, p10, p11⟩, ⟨p12, p13, p14⟩⟩ := box15 ((HB.out.block _ (by omega)).trans (laid1 w _))
      go_wp2_with (at_builtin; refine DK.wpList_append_owned rfl _ _ rfl (w.heap.size + 1) (.slice a 0 c) rfl ((dvs 64).take 0) (HO.out.below ((Below.refl _ _).alloc (Nat.le_refl _) _) (Nat.le_refl _)) (some ⟨wr.heap.size, 0, none⟩) 1 1 rfl [⟨0, none, 0, 0, false⟩] rfl (rowC_at (K := DK) wr 26 [⟨0, none, 0, 0, false⟩] _ _ 1 rfl rfl rfl (by simp)) (by simp [dvs]) (by simp; omega) ((dvs 64).take 1) rfl ?_; intro a1 c1 w1 hO1 hG1; have HO1 := Lib.hid hO1; have HB1 := Lib.hid (below_grown ((Below.refl (w.heap.size + 1) wr).alloc (by omega) _) hG1 (by simp; omega) (fun j hj => (HO.out.lt j hj).1)); clear hO1 hG1)
      go_roundw
      case rel => exact ⟨1, c1, a1, by go_num, by omega, rfl, HO1, HB.out.trans HB1.out⟩
      case measure => simp [intOf]
    · obtain ⟨⟨p0, p1, p2⟩, ⟨p3, p4, p5⟩, ⟨p6, p7, p8⟩, ⟨p9, p10, p11⟩, ⟨p12, p13, p14⟩⟩ := box15 ((HB.out.block _ (by omega)).trans (laid1 w _))
      go_wp2_with (at_builtin; refine DK.wpList_append_owned rfl _ _ rfl (w.heap.size + 1) (.slice a 1 c) rfl ((dvs 64).take 1) (HO.out.below ((Below.refl _ _).alloc (Nat.le_refl _) _) (Nat.le_refl _)) (some ⟨wr.heap.size, 0, none⟩) 1 1 rfl [⟨0, none, 0, 0, false⟩] rfl (rowC_at (K := DK) wr 26 [⟨0, none, 0, 0, false⟩] _ _ 1 rfl rfl rfl (by simp)) (by simp [dvs]) (by simp; omega) ((dvs 64).take 2) rfl ?_; intro a1 c1 w1 hO1 hG1; have HO1 := Lib.hid hO1; have HB1 := Lib.hid (below_grown ((Below.refl (w.heap.size + 1) wr).alloc (by omega) _) hG1 (by simp; omega) (fun j hj => (HO.out.lt j hj).1)); clear hO1 hG1)
      go_roundw
      case rel => exact ⟨2, c1, a1, by go_num, by omega, rfl, HO1, HB.out.trans HB1.out⟩
      case measure => simp [intOf]
    · obtain ⟨⟨p0, p1, p2⟩, ⟨p3, p4, p5⟩, ⟨p6, p7, p8⟩, ⟨p9, p10, p11⟩, ⟨p12, p13, p14⟩⟩ := box15 ((HB.out.block _ (by omega)).trans (laid1 w _))
      go_wp2_with (at_builtin; refine DK.wpList_append_owned rfl _ _ rfl (w.heap.size + 1) (.slice a 2 c) rfl ((dvs 64).take 2) (HO.out.below ((Below.refl _ _).alloc (Nat.le_refl _) _) (Nat.le_refl _)) (some ⟨wr.heap.size, 0, none⟩) 1 1 rfl [⟨1, none, 0, 0, false⟩] rfl (rowC_at (K := DK) wr 26 [⟨1, none, 0, 0, false⟩] _ _ 1 rfl rfl rfl (by simp)) (by simp [dvs]) (by simp; omega) ((dvs 64).take 3) rfl ?_; intro a1 c1 w1 hO1 hG1; have HO1 := Lib.hid hO1; have HB1 := Lib.hid (below_grown ((Below.refl (w.heap.size + 1) wr).alloc (by omega) _) hG1 (by simp; omega) (fun j hj => (HO.out.lt j hj).1)); clear hO1 hG1)
      go_roundw
      case rel => exact ⟨3, c1, a1, by go_num, by omega, rfl, HO1, HB.out.trans HB1.out⟩
      case measure => simp [intOf]
    · obtain ⟨⟨p0, p1, p2⟩, ⟨p3, p4, p5⟩, ⟨p6, p7, p8⟩, ⟨p9, p10, p11⟩, ⟨p12, p13, p14⟩⟩ := box15 ((HB.out.block _ (by omega)).trans (laid1 w _))
      go_wp2_with (at_builtin; refine DK.wpList_append_owned rfl _ _ rfl (w.heap.size + 1) (.slice a 3 c) rfl ((dvs 64).take 3) (HO.out.below ((Below.refl _ _).alloc (Nat.le_refl _) _) (Nat.le_refl _)) (some ⟨wr.heap.size, 0, none⟩) 1 1 rfl [⟨1, none, 0, 0, false⟩] rfl (rowC_at (K := DK) wr 26 [⟨1, none, 0, 0, false⟩] _ _ 1 rfl rfl rfl (by simp)) (by simp [dvs]) (by simp; omega) ((dvs 64).take 4) rfl ?_; intro a1 c1 w1 hO1 hG1; have HO1 := Lib.hid hO1; have HB1 := Lib.hid (below_grown ((Below.refl (w.heap.size + 1) wr).alloc (by omega) _) hG1 (by simp; omega) (fun j hj => (HO.out.lt j hj).1)); clear hO1 hG1)
      go_roundw
      case rel => exact ⟨4, c1, a1, by go_num, by omega, rfl, HO1, HB.out.trans HB1.out⟩
      case measure => simp [intOf]
    · obtain ⟨⟨p0, p1, p2⟩, ⟨p3, p4, p5⟩, ⟨p6, p7, p8⟩, ⟨p9, p10, p11⟩, ⟨p12, p13, p14⟩⟩ := box15 ((HB.out.block _ (by omega)).trans (laid1 w _))
      go_wp2_with (at_builtin; refine DK.wpList_append_owned rfl _ _ rfl (w.heap.size + 1) (.slice a 4 c) rfl ((dvs 64).take 4) (HO.out.below ((Below.refl _ _).alloc (Nat.le_refl _) _) (Nat.le_refl _)) (some ⟨wr.heap.size, 0, none⟩) 1 1 rfl [⟨64, none, 0, 0, false⟩] rfl (rowC_at (K := DK) wr 26 [⟨64, none, 0, 0, false⟩] _ _ 1 rfl rfl rfl (by simp)) (by simp [dvs]) (by simp; omega) ((dvs 64).take 5) rfl ?_; intro a1 c1 w1 hO1 hG1; have HO1 := Lib.hid hO1; have HB1 := Lib.hid (below_grown ((Below.refl (w.heap.size + 1) wr).alloc (by omega) _) hG1 (by simp; omega) (fun j hj => (HO.out.lt j hj).1)); clear hO1 hG1)
      go_roundw
      case rel => exact ⟨5, c1, a1, by go_num, by omega, rfl, HO1, HB.out.trans HB1.out⟩
      case measure => simp [intOf]
    · go_wp2_with fail
      go_ret
      exact ⟨a, c, rfl, HO.out.row, ((Below.refl _ _).alloc (Nat.le_refl _) _).trans (HB.out.mono (by omega))⟩

set_option maxHeartbeats 8000000 in
set_option maxRecDepth 1000000 in
theorem own_mid (n : Int) (h : 0 ≤ n) (h2 : n ≤ 64) (w : World) :
    Calls Try.prog 19 #[.int .i64 n] w fun e w' => ∃ a c, e = .returned (.slice a 5 c) ∧ DK.RowC w' a c (dvs n) ∧ Below w.heap.size w w' := by
  go_enter Try.func19, Try.ntmps19
  go_wp2_with fail
  go_loopw [4, 15] (fun u4 u15 wr => ∃ (k c : Nat) (a : Option Addr), u15 = .int .i64 k ∧ k ≤ 5 ∧ u4 = .slice a k c ∧ Hid (DK.Own wr (w.heap.size + 1) (.slice a k c) ((dvs n).take k)) ∧ Below (w.heap.size + 1) (w.alloc (.cells #[.int .i64 0, .slice none 0 0, .bool false, .int .i64 0, .slice none 0 0, .bool false, .int .i64 1, .slice none 0 0, .bool false, .int .i64 1, .slice none 0 0, .bool false, .int .i64 n, .slice none 0 0, .bool false] 58)) wr) (fun _ u _ => 5 - (intOf u).toNat)
  case atStart => exact ⟨0, 0, none, rfl, by omega, rfl, Lib.hid (own_nil _ _), Below.refl _ _⟩
  case round =>
    obtain ⟨k, c, a, rfl, hk, rfl, hO, hb⟩ := hrel
    have HO := Lib.hid hO.out
    have HB := Lib.hid hb
    have hbs : w.heap.size + 1 ≤ wr.heap.size := by have := hb.size; simpa using this
    clear hO hb
    rcases (show k = 0 ∨ k = 1 ∨ k = 2 ∨ k = 3 ∨ k = 4 ∨ k = 5 by omega) with rfl | rfl | rfl | rfl | rfl | rfl
    · obtain ⟨⟨p0, p1, p2⟩, ⟨p3, p4, p5⟩, ⟨p6, p7, p8⟩, ⟨p9, p10, p11⟩, ⟨p12, p13, p14⟩⟩ := box15 ((HB.out.block _ (by omega)).trans (laid1 w _))
      go_wp2_with (at_builtin; refine DK.wpList_append_owned rfl _ _ rfl (w.heap.size + 1) (.slice a 0 c) rfl ((dvs n).take 0) (HO.out.below ((Below.refl _ _).alloc (Nat.le_refl _) _) (Nat.le_refl _)) (some ⟨wr.heap.size, 0, none⟩) 1 1 rfl [⟨0, none, 0, 0, false⟩] rfl (rowC_at (K := DK) wr 26 [⟨0, none, 0, 0, false⟩] _ _ 1 rfl rfl rfl (by simp)) (by simp [dvs]) (by simp; omega) ((dvs n).take 1) rfl ?_; intro a1 c1 w1 hO1 hG1; have HO1 := Lib.hid hO1; have HB1 := Lib.hid (below_grown ((Below.refl (w.heap.size + 1) wr).alloc (by omega) _) hG1 (by simp; omega) (fun j hj => (HO.out.lt j hj).1)); clear hO1 hG1)
      go_roundw
      case rel => exact ⟨1, c1, a1, by go_num, by omega, rfl, HO1, HB.out.trans HB1.out⟩
      case measure => simp [intOf]
    · obtain ⟨⟨p0, p1, p2⟩, ⟨p3, p4, p5⟩, ⟨p6, p7, p8⟩, ⟨p9, p10, p11⟩, ⟨p12, p13, p14⟩⟩ := box15 ((HB.out.block _ (by omega)).trans (laid1 w _))
      go_wp2_with (at_builtin; refine DK.wpList_append_owned rfl _ _ rfl (w.heap.size + 1) (.slice a 1 c) rfl ((dvs n).take 1) (HO.out.below ((Below.refl _ _).alloc (Nat.le_refl _) _) (Nat.le_refl _)) (some ⟨wr.heap.size, 0, none⟩) 1 1 rfl [⟨0, none, 0, 0, false⟩] rfl (rowC_at (K := DK) wr 26 [⟨0, none, 0, 0, false⟩] _ _ 1 rfl rfl rfl (by simp)) (by simp [dvs]) (by simp; omega) ((dvs n).take 2) rfl ?_; intro a1 c1 w1 hO1 hG1; have HO1 := Lib.hid hO1; have HB1 := Lib.hid (below_grown ((Below.refl (w.heap.size + 1) wr).alloc (by omega) _) hG1 (by simp; omega) (fun j hj => (HO.out.lt j hj).1)); clear hO1 hG1)
      go_roundw
      case rel => exact ⟨2, c1, a1, by go_num, by omega, rfl, HO1, HB.out.trans HB1.out⟩
      case measure => simp [intOf]
    · obtain ⟨⟨p0, p1, p2⟩, ⟨p3, p4, p5⟩, ⟨p6, p7, p8⟩, ⟨p9, p10, p11⟩, ⟨p12, p13, p14⟩⟩ := box15 ((HB.out.block _ (by omega)).trans (laid1 w _))
      go_wp2_with (at_builtin; refine DK.wpList_append_owned rfl _ _ rfl (w.heap.size + 1) (.slice a 2 c) rfl ((dvs n).take 2) (HO.out.below ((Below.refl _ _).alloc (Nat.le_refl _) _) (Nat.le_refl _)) (some ⟨wr.heap.size, 0, none⟩) 1 1 rfl [⟨1, none, 0, 0, false⟩] rfl (rowC_at (K := DK) wr 26 [⟨1, none, 0, 0, false⟩] _ _ 1 rfl rfl rfl (by simp)) (by simp [dvs]) (by simp; omega) ((dvs n).take 3) rfl ?_; intro a1 c1 w1 hO1 hG1; have HO1 := Lib.hid hO1; have HB1 := Lib.hid (below_grown ((Below.refl (w.heap.size + 1) wr).alloc (by omega) _) hG1 (by simp; omega) (fun j hj => (HO.out.lt j hj).1)); clear hO1 hG1)
      go_roundw
      case rel => exact ⟨3, c1, a1, by go_num, by omega, rfl, HO1, HB.out.trans HB1.out⟩
      case measure => simp [intOf]
    · obtain ⟨⟨p0, p1, p2⟩, ⟨p3, p4, p5⟩, ⟨p6, p7, p8⟩, ⟨p9, p10, p11⟩, ⟨p12, p13, p14⟩⟩ := box15 ((HB.out.block _ (by omega)).trans (laid1 w _))
      go_wp2_with (at_builtin; refine DK.wpList_append_owned rfl _ _ rfl (w.heap.size + 1) (.slice a 3 c) rfl ((dvs n).take 3) (HO.out.below ((Below.refl _ _).alloc (Nat.le_refl _) _) (Nat.le_refl _)) (some ⟨wr.heap.size, 0, none⟩) 1 1 rfl [⟨1, none, 0, 0, false⟩] rfl (rowC_at (K := DK) wr 26 [⟨1, none, 0, 0, false⟩] _ _ 1 rfl rfl rfl (by simp)) (by simp [dvs]) (by simp; omega) ((dvs n).take 4) rfl ?_; intro a1 c1 w1 hO1 hG1; have HO1 := Lib.hid hO1; have HB1 := Lib.hid (below_grown ((Below.refl (w.heap.size + 1) wr).alloc (by omega) _) hG1 (by simp; omega) (fun j hj => (HO.out.lt j hj).1)); clear hO1 hG1)
      go_roundw
      case rel => exact ⟨4, c1, a1, by go_num, by omega, rfl, HO1, HB.out.trans HB1.out⟩
      case measure => simp [intOf]
    · obtain ⟨⟨p0, p1, p2⟩, ⟨p3, p4, p5⟩, ⟨p6, p7, p8⟩, ⟨p9, p10, p11⟩, ⟨p12, p13, p14⟩⟩ := box15 ((HB.out.block _ (by omega)).trans (laid1 w _))
      go_wp2_with (at_builtin; refine DK.wpList_append_owned rfl _ _ rfl (w.heap.size + 1) (.slice a 4 c) rfl ((dvs n).take 4) (HO.out.below ((Below.refl _ _).alloc (Nat.le_refl _) _) (Nat.le_refl _)) (some ⟨wr.heap.size, 0, none⟩) 1 1 rfl [⟨n, none, 0, 0, false⟩] rfl (rowC_at (K := DK) wr 26 [⟨n, none, 0, 0, false⟩] _ _ 1 rfl rfl rfl (by simp)) (by simp [dvs]) (by simp; omega) ((dvs n).take 5) rfl ?_; intro a1 c1 w1 hO1 hG1; have HO1 := Lib.hid hO1; have HB1 := Lib.hid (below_grown ((Below.refl (w.heap.size + 1) wr).alloc (by omega) _) hG1 (by simp; omega) (fun j hj => (HO.out.lt j hj).1)); clear hO1 hG1)
      go_roundw
      case rel => exact ⟨5, c1, a1, by go_num, by omega, rfl, HO1, HB.out.trans HB1.out⟩
      case measure => simp [intOf]
    · go_wp2_with fail
      go_ret
      exact ⟨a, c, rfl, HO.out.row, ((Below.refl _ _).alloc (Nat.le_refl _) _).trans (HB.out.mono (by omega))⟩

theorem own_any (n f : Int) (hR : CapR n f) (w : World) :
    Calls Try.prog 19 #[.int .i64 n] w fun e w' => ∃ a c, e = .returned (.slice a 5 c) ∧ DK.RowC w' a c (dvs f) ∧ Below w.heap.size w w' := by
  rcases hR with ⟨h, rfl⟩ | ⟨h, h2, rfl⟩ | ⟨h, h2, rfl⟩
  · exact own_neg n h w
  · exact own_big n h h2 w
  · exact own_mid _ h h2 w
end Go.Proofs.Ytomiajgedcpjiaa
