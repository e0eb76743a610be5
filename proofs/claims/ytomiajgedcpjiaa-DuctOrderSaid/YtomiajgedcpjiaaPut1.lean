/- What Put does to a duct. -/
import Derived.Test.YtomiajgedcpjiaaMay
import Derived.Deep.RegionHeld3
import Derived.Deep.RegionLaw
set_option linter.unusedSimpArgs false
set_option linter.unusedVariables false
namespace Go.Proofs.Ytomiajgedcpjiaa
open Go.RowKit Go.Proofs.Ytomiajgedcpjiaa.Kind

/-- What Put answers, and which letters are in the duct behind it. -/
def PutR (cap : Int) (cl : Bool) (l k : List Lt) (er : Int) (L : List Lt) : Prop :=
  (cl = true ∧ er = 52 ∧ L = l) ∨ (cl = false ∧ roomB cap l.length cl < (k.length : Int) ∧ er = 50 ∧ L = l) ∨ (cl = false ∧ (k.length : Int) ≤ roomB cap l.length cl ∧ er = 0 ∧ L = l ++ k)

theorem cell1 {w : World} {g : Nat} {x : Value} {t : TypeId} (h : w.heap[g]? = some (.cells #[x] t (0, 0))) : w.cell? ⟨g, 0, none⟩ = some x := by
  simp [World.cell?, h]

set_option maxHeartbeats 4000000 in
set_option maxRecDepth 1000000 in
theorem put1_any (cap : Int) (cl : Bool) (l k : List Lt) (er : Int) (L : List Lt) (hR : PutR cap cl l k er L) (hcap : cap ≤ 9223372036854775807) (hl : l.length ≤ 100000) (hk : k.length ≤ 100000)
    (a b : Option Addr) (c d g gl base : Nat) (w : World) (hg : w.heap[g]? = some (.cells #[.int .i64 cap, .slice a l.length c, .bool cl] 26 (0, 0))) (hgl : w.heap[gl]? = some (.cells #[.slice b k.length d] 24 (0, 0)))
    (hO : LK.Own w base (.slice a l.length c) l) (hK : LK.RowC w b d k) (hbg : base ≤ g) (hB : base ≤ w.heap.size) :
    Calls Try.prog 28 #[.pointer (some ⟨g, 0, none⟩), .pointer (some ⟨gl, 0, none⟩)] w fun e w' => ∃ a' c', e = .returned (.int .i64 er) ∧ w'.heap[g]? = some (.cells #[.int .i64 cap, .slice a' L.length c', .bool cl] 26 (0, 0)) ∧ LK.Own w' base (.slice a' L.length c') L ∧ Below base w w' := by
  obtain ⟨⟨c0, c1, c2⟩, f0, f1, f2⟩ := box3 hg
  have cl0 := cell1 hgl
  have HB := Lib.hid hB
  clear hB
  rcases hR with ⟨rfl, rfl, rfl⟩ | ⟨rfl, hr, rfl, rfl⟩ | ⟨rfl, hr, rfl, hL⟩
  · go_enter Try.func28, Try.ntmps28
    go_wp2_with fail
    go_ret
    exact ⟨a, c, rfl, hg, hO, Below.refl _ _⟩
  · have HRm := Lib.hid (fun w => room_any cap a L.length c false w hcap)
    have HG := Lib.hid hg
    have HO := Lib.hid hO
    clear hg hgl hO hK f0 f1 f2
    generalize roomB cap L.length false = R at *
    go_enter Try.func28, Try.ntmps28
    go_wp2_with fail
    go_region_held3 (fun w' => w'.cell? ⟨g, 0, none⟩ = some (.int .i64 cap) ∧ w'.cell? ⟨g, 1, none⟩ = some (.slice a L.length c) ∧ w'.cell? ⟨g, 2, none⟩ = some (.bool false) ∧ w'.cell? ⟨gl, 0, none⟩ = some (.slice b k.length d)) (go_keep) (first
      | (go_at_call 24; with_reducible refine (HRm.out _).mono ?_; rintro e w1 ⟨rfl, rfl⟩))
    go_wp2_with fail
    go_ret
    exact ⟨a, c, rfl, (Below.heap_alloc _ _ _ (lt_of_block HG.out)).trans HG.out, (HO.out.below ((Below.refl _ _).alloc (Nat.le_refl _) _) (Nat.le_refl _)).draw, ((Below.refl _ _).alloc HB.out _).drew⟩
  · have HRm := Lib.hid (fun w => room_any cap a l.length c false w hcap)
    have HG := Lib.hid hg
    have HO := Lib.hid hO
    have HK := Lib.hid hK
    have HW := Lib.hid ((Below.refl w.heap.size w).alloc (Nat.le_refl _) (.cells #[.int .i64 cap, .slice a l.length c, .bool false] 26)).drew
    have HL := Lib.hid hL
    have hglt := lt_of_block hg
    have hgllt := lt_of_block hgl
    clear hg hgl hO hK hL
    generalize roomB cap l.length false = R at *
    go_enter Try.func28, Try.ntmps28
    go_wp2_with fail
    go_region_held3 (fun w' => w'.cell? ⟨g, 0, none⟩ = some (.int .i64 cap) ∧ w'.cell? ⟨g, 1, none⟩ = some (.slice a l.length c) ∧ w'.cell? ⟨g, 2, none⟩ = some (.bool false) ∧ w'.cell? ⟨gl, 0, none⟩ = some (.slice b k.length d)) (go_keep) (first
      | (go_at_call 24; with_reducible refine (HRm.out _).mono ?_; rintro e w1 ⟨rfl, rfl⟩))
    generalize (w.alloc (.cells #[.int .i64 cap, .slice a l.length c, .bool false] 26)).drew = W at *
    have hg := (HW.out.block g hglt).trans HG.out
    have c0 := (HW.out.cell (p := ⟨gl, 0, none⟩) hgllt)
    obtain ⟨⟨p0, p1, p2⟩, p3, p4, p5⟩ := box3 hg
    have HO := Lib.hid (HO.out.below HW.out (Nat.le_refl _))
    have hne := HO.out.ne hg (by decide)
    have hWs := HW.out.size
    go_wp2_with fail
    go_region_law (refine LK.step_append_owned rfl _ _ rfl base (.slice a l.length c) rfl l HO.out b k.length d rfl k rfl (HK.out.below HW.out.drew) (by omega) (by have := HB.out; simp; omega) L HL.out ?_; intro a1 c1 w1 hO1 hG1; have HO1 := Lib.hid hO1; have hg1 := (hG1.block g (show g < W.heap.size by omega) (fun e => hne e.symm)).trans hg; have HG1 := Lib.hid hg1; obtain ⟨⟨q0, q1, q2⟩, q3, q4, q5⟩ := box3 hg1; have HB1 := Lib.hid ((Below.refl base W).drew.grown hG1 (by have := HB.out; simp; omega) (fun j hj => (HO.out.lt j hj).1)); clear hO1 hG1 hg1)
    all_goals
      go_wp2_with fail
      go_ret
      exact ⟨a1, c1, rfl, set_at HG1.out 1 _, HO1.out.setNe (HO1.out.ne HG1.out (by decide)) _, ((HW.out.mono HB.out).trans HB1.out).setCell hbg _⟩
end Go.Proofs.Ytomiajgedcpjiaa
