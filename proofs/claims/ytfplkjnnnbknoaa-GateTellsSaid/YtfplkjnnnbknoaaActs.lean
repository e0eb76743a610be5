/- What is done at a gate: it is cut, somebody enters it, somebody leaves it. -/
import Derived.Test.YtfplkjnnnbknoaaBehind
set_option linter.unusedSimpArgs false
set_option linter.unusedVariables false
namespace Go.Proofs.Ytfplkjnnnbknoaa
open Go.RowKit Go.Proofs.Ytfplkjnnnbknoaa.Kind

/-- The room of a duct whose letters are as many. -/
theorem roomB_zero {cap : Int} {n : Nat} (h : cap ≤ (n : Int)) : roomB cap n false = 0 := by simp [roomB, h]
theorem roomB_pos {cap : Int} {n : Nat} (h : (n : Int) < cap) : roomB cap n false = cap - n := by simp [roomB]; omega

set_option maxHeartbeats 4000000 in
set_option maxRecDepth 1000000 in
theorem cut1_ok (cap : Int) (l : List Lt) (a : Option Addr) (c g gp base : Nat) (w : World) (hp : w.heap[gp]? = some (.cells #[.pointer (some ⟨g, 0, none⟩)] 43 (0, 0))) (hg : w.heap[g]? = some (.cells #[.int .i64 cap, .slice a l.length c, .bool false] 47 (0, 0)))
    (hO : LK.Own w base (.slice a l.length c) l) (hbg : base ≤ g) :
    Calls Try.prog 29 #[.pointer (some ⟨gp, 0, none⟩)] w fun e w' => e = .returned (.int .i64 0) ∧ w'.heap[g]? = some (.cells #[.int .i64 cap, .slice a l.length c, .bool true] 47 (0, 0)) ∧ LK.Own w' base (.slice a l.length c) l ∧ Below base w w' ∧ ∀ j, j ≠ g → w'.heap[j]? = w.heap[j]? := by
  obtain ⟨⟨c0, c1, c2⟩, f0, f1, f2⟩ := box3 hg
  obtain ⟨d0, e0⟩ := cell1 hp
  have HG := Lib.hid hg
  have HO := Lib.hid hO
  clear hg hO hp
  go_enter Try.func29, Try.ntmps29
  go_wp2_with fail
  go_ret
  exact ⟨rfl, set_at HG.out 2 _, HO.out.setNe (HO.out.ne HG.out (by decide)) _, (Below.refl _ _).setCell hbg _, fun j hj => Below.heap_setCell _ _ _ _ hj⟩

set_option maxHeartbeats 4000000 in
set_option maxRecDepth 1000000 in
theorem cut1_bad (cap : Int) (a : Option Addr) (n c g gp : Nat) (w : World) (hp : w.heap[gp]? = some (.cells #[.pointer (some ⟨g, 0, none⟩)] 43 (0, 0))) (hg : w.heap[g]? = some (.cells #[.int .i64 cap, .slice a n c, .bool true] 47 (0, 0))) :
    Calls Try.prog 29 #[.pointer (some ⟨gp, 0, none⟩)] w fun e w' => e = .returned (.int .i64 52) ∧ Below w.heap.size w w' := by
  obtain ⟨⟨c0, c1, c2⟩, f0, f1, f2⟩ := box3 hg
  obtain ⟨d0, e0⟩ := cell1 hp
  clear hg hp
  go_enter Try.func29, Try.ntmps29
  go_wp2_with fail
  go_ret
  exact ⟨rfl, Below.refl _ _⟩

set_option maxHeartbeats 4000000 in
set_option maxRecDepth 1000000 in
theorem enter1_shut (cap : Int) (a : Option Addr) (n c g gp : Nat) (w : World) (hp : w.heap[gp]? = some (.cells #[.pointer (some ⟨g, 0, none⟩)] 43 (0, 0))) (hg : w.heap[g]? = some (.cells #[.int .i64 cap, .slice a n c, .bool true] 47 (0, 0))) :
    Calls Try.prog 31 #[.pointer (some ⟨gp, 0, none⟩)] w fun e w' => e = .returned (.int .i64 52) ∧ Below w.heap.size w w' := by
  obtain ⟨⟨c0, c1, c2⟩, f0, f1, f2⟩ := box3 hg
  obtain ⟨d0, e0⟩ := cell1 hp
  clear hg hp
  go_enter Try.func31, Try.ntmps31
  go_wp2_with fail
  go_ret
  exact ⟨rfl, Below.refl _ _⟩

set_option maxHeartbeats 4000000 in
set_option maxRecDepth 1000000 in
theorem enter1_full (cap : Int) (a : Option Addr) (n c g gp : Nat) (w : World) (hcap : cap ≤ 9223372036854775807) (hn : cap ≤ (n : Int)) (hp : w.heap[gp]? = some (.cells #[.pointer (some ⟨g, 0, none⟩)] 43 (0, 0))) (hg : w.heap[g]? = some (.cells #[.int .i64 cap, .slice a n c, .bool false] 47 (0, 0))) :
    Calls Try.prog 31 #[.pointer (some ⟨gp, 0, none⟩)] w fun e w' => e = .returned (.int .i64 50) ∧ Below w.heap.size w w' := by
  obtain ⟨⟨c0, c1, c2⟩, f0, f1, f2⟩ := box3 hg
  obtain ⟨d0, e0⟩ := cell1 hp
  have HR := Lib.hid (fun w => mfree_any cap a n c false w hcap)
  rw [roomB_zero hn] at HR
  clear hg hp
  go_enter Try.func31, Try.ntmps31
  go_wp2_with fail
  with_reducible refine (HR.out _).mono ?_
  rintro e w1 ⟨rfl, rfl⟩
  go_wp2_with fail
  go_ret
  exact ⟨rfl, below2 w _ _⟩

set_option maxHeartbeats 4000000 in
set_option maxRecDepth 1000000 in
theorem enter1_ok (cap : Int) (l : List Lt) (L : List Lt) (hL : L = l ++ [Lt.zero]) (a : Option Addr) (c g gp base : Nat) (w : World) (hcap : cap ≤ 9223372036854775807) (hl : l.length ≤ 100000) (hn : (l.length : Int) < cap) (hp : w.heap[gp]? = some (.cells #[.pointer (some ⟨g, 0, none⟩)] 43 (0, 0))) (hg : w.heap[g]? = some (.cells #[.int .i64 cap, .slice a l.length c, .bool false] 47 (0, 0)))
    (hO : LK.Own w base (.slice a l.length c) l) (hbg : base ≤ g) (hB : base ≤ w.heap.size) :
    Calls Try.prog 31 #[.pointer (some ⟨gp, 0, none⟩)] w fun e w' => ∃ a' c', e = .returned (.int .i64 0) ∧ w'.heap[g]? = some (.cells #[.int .i64 cap, .slice a' L.length c', .bool false] 47 (0, 0)) ∧ LK.Own w' base (.slice a' L.length c') L ∧ Below base w w' ∧ ∀ j, j < w.heap.size → j ≠ g → (Value.slice a l.length c).ownBlock ≠ some j → w'.heap[j]? = w.heap[j]? := by
  have HR := Lib.hid (fun w => mfree_any cap a l.length c false w hcap)
  rw [roomB_pos hn] at HR
  obtain ⟨R, hR⟩ : ∃ R, R = cap - (l.length : Int) := ⟨_, rfl⟩
  have hR0 : 0 < R := by omega
  have hR1 : R ≠ 0 := by omega
  rw [← hR] at HR
  have HL := Lib.hid hL
  obtain ⟨⟨c0, c1, c2⟩, f0, f1, f2⟩ := box3 hg
  obtain ⟨d0, e0⟩ := cell1 hp
  have hglt := lt_of_block hg
  have hplt := lt_of_block hp
  have HG := Lib.hid hg
  have HP := Lib.hid hp
  have HO := Lib.hid hO
  have HW := Lib.hid (below2 w (.cells #[.int .i64 cap, .slice a l.length c, .bool false] 47) (.cells #[.int .i64 cap, .slice a l.length c, .bool false] 24))
  clear hg hO hp hR hL
  go_enter Try.func31, Try.ntmps31
  go_wp2_with fail
  with_reducible refine (HR.out _).mono ?_
  rintro e w1 ⟨rfl, rfl⟩
  clear c0 c1 c2 f0 f1 f2 d0 e0
  generalize (w.alloc (.cells #[.int .i64 cap, .slice a l.length c, .bool false] 47)).alloc (.cells #[.int .i64 cap, .slice a l.length c, .bool false] 24) = W at *
  have hg := (HW.out.block g hglt).trans HG.out
  have hp := (HW.out.block gp hplt).trans HP.out
  obtain ⟨⟨c0, c1, c2⟩, f0, f1, f2⟩ := box3 hg
  obtain ⟨d0, e0⟩ := cell1 hp
  have HO := Lib.hid (HO.out.below HW.out (Nat.le_refl _))
  have hne := HO.out.ne hg (by decide)
  have hne2 := HO.out.ne hp (by decide)
  have hWs := HW.out.size
  have HK := Lib.hid (rowC_draw <| rowC_at (K := LK) W 42 [Lt.zero] #[.int .i8 0, .int .i64 0, .int .i64 0, .int .i64 0, .string ⟨#[]⟩, .int .i64 0] W.heap.size 1 rfl rfl rfl (by simp))
  have hbZ := below1 W (.cells #[.int .i8 0, .int .i64 0, .int .i64 0, .int .i64 0, .string ⟨#[]⟩, .int .i64 0] 42)
  have hgZ := (hbZ.block g (by omega)).trans hg
  have hpZ := (hbZ.block gp (by omega)).trans hp
  obtain ⟨⟨x0, x1, x2⟩, y0, y1, y2⟩ := box3 hgZ
  obtain ⟨u0, v0⟩ := cell1 hpZ
  have HZ := Lib.hid hbZ.drew
  have HOZ := Lib.hid (HO.out.below hbZ (Nat.le_refl _)).draw
  have HGZ := Lib.hid hgZ
  have HPZ := Lib.hid hpZ
  clear hbZ hgZ hpZ
  go_wp2_with fail
  go_region_law (refine LK.step_append_owned rfl _ _ rfl base (.slice a l.length c) rfl l HOZ.out (some ⟨W.heap.size, 0, none⟩) 1 1 rfl [Lt.zero] rfl HK.out (by simp; omega) (by have := hB; simp; omega) L HL.out ?_; intro a1 c1 w1 hO1 hG1; have HO1 := Lib.hid hO1; have hg1 := (hG1.block g (by simp; omega) (fun e => hne e.symm)).trans HGZ.out; have HG1 := Lib.hid hg1; obtain ⟨⟨q0, q1, q2⟩, q3, q4, q5⟩ := box3 hg1; obtain ⟨s0, s1⟩ := cell1 ((hG1.block gp (by simp; omega) (fun e => hne2 e.symm)).trans HPZ.out); have HB1 := Lib.hid hG1; clear hO1 hG1 hg1)
  all_goals
    go_wp2_with fail
    go_ret
    exact ⟨a1, c1, rfl, set_at HG1.out 1 _, HO1.out.setNe (HO1.out.ne HG1.out (by decide)) _, (((HW.out.mono hB).trans (HZ.out.mono (by omega))).grown HB1.out (by simp; omega) (fun j hj => (HOZ.out.lt j hj).1)).setCell hbg _, fun j hj hjg hjo => (Below.heap_setCell _ _ _ _ hjg).trans ((HB1.out.block j (by simp; omega) (fun e => hjo e.symm)).trans ((HZ.out.block j (by omega)).trans (HW.out.block j hj)))⟩

set_option maxHeartbeats 4000000 in
set_option maxRecDepth 1000000 in
theorem leave1_bad (cap : Int) (a : Option Addr) (c g gp : Nat) (cl : Bool) (w : World) (hp : w.heap[gp]? = some (.cells #[.pointer (some ⟨g, 0, none⟩)] 43 (0, 0))) (hg : w.heap[g]? = some (.cells #[.int .i64 cap, .slice a 0 c, .bool cl] 47 (0, 0))) :
    Calls Try.prog 33 #[.pointer (some ⟨gp, 0, none⟩)] w fun e w' => e = .returned (.int .i64 51) ∧ Below w.heap.size w w' := by
  obtain ⟨⟨c0, c1, c2⟩, f0, f1, f2⟩ := box3 hg
  obtain ⟨d0, e0⟩ := cell1 hp
  have HR := Lib.hid (fun w => minside_any cap a 0 c cl w)
  clear hg hp
  go_enter Try.func33, Try.ntmps33
  go_wp2_with fail
  with_reducible refine (HR.out _).mono ?_
  rintro e w1 ⟨rfl, rfl⟩
  go_wp2_with fail
  go_ret
  exact ⟨rfl, below1 w _⟩

theorem leave1_end (W w : World) (g : Nat) (cap : Int) (k c : Nat) (cl : Bool) (a2 : Option Addr) (b base : Nat) (L : List Lt) (V : World) (hV : V = W.setCell ⟨g, 1, none⟩ (.slice a2 k (c - 1))) (hg : W.heap[g]? = some (.cells #[.int .i64 cap, .slice (some ⟨b, 0, none⟩) (k + 1) c, .bool cl] 47 (0, 0)))
    (hL : LK.Loose W base a2 (c - 1) L) (ha : ∀ ad', a2 = some ad' → ad'.block = b) (hne : b ≠ g) (hW : Below w.heap.size w W) (hlt : g < w.heap.size) :
    V.drew.heap[g]? = some (.cells #[.int .i64 cap, .slice a2 k (c - 1), .bool cl] 47 (0, 0)) ∧ LK.Loose V.drew base a2 (c - 1) L ∧ Below g w V.drew ∧ ∀ j, j < w.heap.size → j ≠ g → V.drew.heap[j]? = w.heap[j]? := by
  have e1 := set_at hg 1 (.slice a2 k (c - 1))
  have e2 : LK.Loose (W.setCell ⟨g, 1, none⟩ (.slice a2 k (c - 1))) base a2 (c - 1) L := loose_same hL (by simp) (fun ad e => Below.heap_setCell _ _ _ _ (by rw [ha ad e]; exact hne))
  have e3 := (hW.mono (Nat.le_of_lt hlt)).setCell (p := ⟨g, 1, none⟩) (Nat.le_refl _) (.slice a2 k (c - 1))
  have e4 : ∀ j, j < w.heap.size → j ≠ g → (W.setCell ⟨g, 1, none⟩ (.slice a2 k (c - 1))).heap[j]? = w.heap[j]? := fun j hj hjg => (Below.heap_setCell _ _ _ _ hjg).trans (hW.block j hj)
  rw [← hV] at e1 e2 e3 e4
  exact ⟨e1, e2, e3.drew, e4⟩

set_option maxHeartbeats 4000000 in
set_option maxRecDepth 1000000 in
theorem leave1_ok (cap : Int) (cl : Bool) (l : List Lt) (m : Lt) (L : List Lt) (hL : l = m :: L) (a : Option Addr) (c g gp base : Nat) (w : World) (hl : l.length ≤ 100000) (hp : w.heap[gp]? = some (.cells #[.pointer (some ⟨g, 0, none⟩)] 43 (0, 0))) (hg : w.heap[g]? = some (.cells #[.int .i64 cap, .slice a l.length c, .bool cl] 47 (0, 0)))
    (hO : LK.Own w base (.slice a l.length c) l) (hbg : base ≤ g) :
    Calls Try.prog 33 #[.pointer (some ⟨gp, 0, none⟩)] w fun e w' => ∃ a' c', e = .returned (.int .i64 0) ∧ w'.heap[g]? = some (.cells #[.int .i64 cap, .slice a' L.length c', .bool cl] 47 (0, 0)) ∧ LK.Loose w' base a' c' L ∧ (∀ ad', a' = some ad' → ∃ ad, a = some ad ∧ ad'.block = ad.block) ∧ Below g w w' ∧ ∀ j, j < w.heap.size → j ≠ g → w'.heap[j]? = w.heap[j]? := by
  obtain ⟨k, hk⟩ : ∃ k, L.length = k := ⟨_, rfl⟩
  have hn : l.length = k + 1 := by rw [hL]; simp [hk]
  obtain ⟨a', c', e, hm⟩ := hO.mine
  injection e with e1 e2 e3
  subst e1 e3
  obtain ⟨b, cur, t, rfl, hbb, hbk, h4, h5⟩ := hm.2.2.2 (by omega)
  have hcc := hm.1
  have hc2 := hm.2.1
  unfold maxLen at hc2
  have hne := hO.ne hg (by decide)
  have hne : b ≠ g := by simpa [Value.ownBlock] using hne
  have hd : l.drop 1 = L := by rw [hL]; rfl
  have HLo := Lib.hid (hO.loose.drop 1 (by omega) (a' := if c = 1 then some ⟨b, 0, none⟩ else some ⟨b, 6, none⟩) (by simp [add_at']; rfl))
  rw [hd] at HLo
  have HR := Lib.hid (fun w => minside_any cap (some ⟨b, 0, none⟩) l.length c cl w)
  have hglt := lt_of_block hg
  have hplt := lt_of_block hp
  have HG := Lib.hid hg
  have HP := Lib.hid hp
  have HW := Lib.hid (below1 w (.cells #[.int .i64 cap, .slice (some ⟨b, 0, none⟩) l.length c, .bool cl] 47))
  obtain ⟨⟨c0, c1, c2⟩, f0, f1, f2⟩ := box3 hg
  obtain ⟨d0, e0⟩ := cell1 hp
  have hk1 : (1 : Int) ≤ (k : Int) + 1 := by omega
  have hk2 : (k : Int) + 1 ≤ (c : Int) := by omega
  rw [hk]
  rw [hn] at *
  clear hg hp hm h4 h5 hbk hd hO hL hn
  go_enter Try.func33, Try.ntmps33
  go_wp2_with fail
  with_reducible refine (HR.out _).mono ?_
  rintro e w1 ⟨rfl, rfl⟩
  clear c0 c1 c2 f0 f1 f2 d0 e0
  generalize w.alloc (.cells #[.int .i64 cap, .slice (some ⟨b, 0, none⟩) (k + 1) c, .bool cl] 47) = W at *
  have hg := (HW.out.block g hglt).trans HG.out
  have hp := (HW.out.block gp hplt).trans HP.out
  have HGW := Lib.hid hg
  obtain ⟨⟨c0, c1, c2⟩, f0, f1, f2⟩ := box3 hg
  obtain ⟨d0, e0⟩ := cell1 hp
  have HLoW := Lib.hid (HLo.out.below HW.out)
  clear hg hp
  go_wp2_with fail
  go_region
  have HA2 := Lib.hid (show ∀ ad', (if c = 1 then some (⟨b, 0, none⟩ : Addr) else some ⟨b, 6, none⟩) = some ad' → ad'.block = b by intro ad' e; split at e <;> (injection e with e; subst e; rfl))
  generalize (if c = 1 then some (⟨b, 0, none⟩ : Addr) else some ⟨b, 6, none⟩) = a2 at *
  have HL1 := Lib.hid (leave1_end W w g cap k c cl a2 b base L _ rfl HGW.out HLoW.out HA2.out hne HW.out hglt)
  go_wp2_with fail
  go_ret
  exact ⟨a2, c - 1, rfl, HL1.out.1, HL1.out.2.1, fun ad' e => ⟨_, rfl, HA2.out ad' e⟩, HL1.out.2.2⟩
end Go.Proofs.Ytfplkjnnnbknoaa
