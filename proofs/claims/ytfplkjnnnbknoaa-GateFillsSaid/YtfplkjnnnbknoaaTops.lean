/- Cut, Enter, Leave of any duct; tokens, gates; how many are inside; are all cut. -/
import Derived.Test.YtfplkjnnnbknoaaActs
set_option linter.unusedSimpArgs false
set_option linter.unusedVariables false
namespace Go.Proofs.Ytfplkjnnnbknoaa
open Go.RowKit Go.Proofs.Ytfplkjnnnbknoaa.Kind

/-- Nothing, which is answered beside an error. -/
def Nought (cap : Int) (L : List Lt) (cl : Bool) : Prop := cap = 0 ∧ L = [] ∧ cl = false
def CutR (cap : Int) (l : List Lt) (cl : Bool) (er cap2 : Int) (L : List Lt) (cl2 : Bool) : Prop := (cl = true ∧ er = 52 ∧ Nought cap2 L cl2) ∨ (cl = false ∧ er = 0 ∧ cap2 = cap ∧ L = l ∧ cl2 = true)
def EnterR (cap : Int) (l : List Lt) (cl : Bool) (er cap2 : Int) (L : List Lt) (cl2 : Bool) : Prop := (cl = true ∧ er = 52 ∧ Nought cap2 L cl2) ∨ (cl = false ∧ cap ≤ (l.length : Int) ∧ er = 50 ∧ Nought cap2 L cl2) ∨ (cl = false ∧ (l.length : Int) < cap ∧ er = 0 ∧ cap2 = cap ∧ L = l ++ [Lt.zero] ∧ cl2 = false)
def LeaveR (cap : Int) (l : List Lt) (cl : Bool) (er cap2 : Int) (L : List Lt) (cl2 : Bool) : Prop := (l = [] ∧ er = 51 ∧ Nought cap2 L cl2) ∨ (l ≠ [] ∧ er = 0 ∧ cap2 = cap ∧ L = l.drop 1 ∧ cl2 = cl)

theorem set3_loose {w : World} {base b : Nat} {a : Option Addr} {c : Nat} {l : List Lt} (h : LK.Loose w base a c l) (hb : b < base) (x y z : Value) : LK.Loose (set3 w b x y z) base a c l :=
  ((h.set (p := ⟨b, 0, none⟩) hb _).set (p := ⟨b, 1, none⟩) hb _).set (p := ⟨b, 2, none⟩) hb _

set_option maxHeartbeats 4000000 in
set_option maxRecDepth 1000000 in
theorem cut_behind (cap : Int) (cl : Bool) (l : List Lt) (er cap2 : Int) (L : List Lt) (cl2 : Bool) (hR : CutR cap l cl er cap2 L cl2) (hl : l.length ≤ 100000) (hcap : cap ≤ 9223372036854775807) (a : Option Addr) (c g gp base : Nat) (W : World) (hp : W.heap[gp]? = some (.cells #[.pointer (some ⟨g, 0, none⟩)] 43 (0, 0))) (hg : W.heap[g]? = some (.cells #[.int .i64 cap, .slice a l.length c, .bool cl] 47 (0, 0)))
    (hO : LK.Own W base (.slice a l.length c) l) (hbg : base ≤ g) :
    Calls Try.prog 28 #[.pointer (some ⟨g, 0, none⟩), .func (.func 29) #[] #[.pointer (some ⟨gp, 0, none⟩)]] W fun e w' => ∃ a' c', e = .returned (.tuple #[.agg #[.int .i64 cap2, .slice a' L.length c', .bool cl2], .int .i64 er]) ∧ LK.Loose w' base a' c' L ∧ Below base W w' := by
  have hglt := lt_of_block hg
  have hplt := lt_of_block hp
  have hbW : base ≤ W.heap.size := by omega
  have hbZ := below1 W (.cells #[.int .i64 0, .slice none 0 0, .bool false] 24)
  have hgZ := (hbZ.block g hglt).trans hg
  have hpZ := (hbZ.block gp hplt).trans hp
  have hZ := laid1 W (.cells #[.int .i64 0, .slice none 0 0, .bool false] 24)
  have hOZ := hO.below hbZ (Nat.le_refl _)
  have hE := enter_fn Try.func29 (by kernel_rfl) rfl
  rcases hR with ⟨rfl, rfl, rfl, rfl, rfl⟩ | ⟨rfl, rfl, rfl, rfl, rfl⟩
  · refine (behind_bad 29 _ g W hE 52 (by decide) base hbW ((cut1_bad cap a l.length c g gp _ hpZ hgZ).mono ?_)).mono ?_
    · rintro e w' ⟨rfl, hb⟩
      exact ⟨rfl, (hb.block _ (by simp)).trans hZ, ((hbZ.mono hbW).trans (hb.mono (by simp; omega)))⟩
    · rintro e w' ⟨rfl, hb⟩
      exact ⟨none, 0, rfl, loose_nil _ _, hb⟩
  · refine behind_ok 29 _ g W hE cap2 true L base base hbW hglt ((cut1_ok cap2 L a c g gp base _ hpZ hgZ hOZ hbg).mono ?_)
    rintro e w' ⟨rfl, h1, h2, h3, h4⟩
    have hq := (h4 W.heap.size (by omega)).trans hZ
    exact ⟨a, c, rfl, h1, Clear.mk h2 (h2.ne hq (by decide)), hq, (hbZ.mono hbW).trans h3⟩

set_option maxHeartbeats 4000000 in
set_option maxRecDepth 1000000 in
theorem cut_any (cap : Int) (cl : Bool) (l : List Lt) (er cap2 : Int) (L : List Lt) (cl2 : Bool) (hR : CutR cap l cl er cap2 L cl2) (hl : l.length ≤ 100000) (hcap : cap ≤ 9223372036854775807) (a : Option Addr) (c : Nat) (w : World) (hA : LK.RowC w a c l) :
    Calls Try.prog 10 #[.agg #[.int .i64 cap, .slice a l.length c, .bool cl]] w fun e w' => ∃ a' c', e = .returned (.tuple #[.agg #[.int .i64 cap2, .slice a' L.length c', .bool cl2], .int .i64 er]) ∧ LK.Loose w' w.heap.size a' c' L ∧ Below w.heap.size w w' := by
  have HB0 := Lib.hid (below2 w (.cells #[.int .i64 cap, .slice a l.length c, .bool cl] 24) (.cells #[.int .i64 0, .slice none 0 0, .bool false] 24))
  have HQ0 := Lib.hid (laid2 w (.cells #[.int .i64 cap, .slice a l.length c, .bool cl] 24) (.cells #[.int .i64 0, .slice none 0 0, .bool false] 24)).2
  have HAt := Lib.hid (at_any cap l cl a c _ hl (hA.below HB0.out))
  have HR := Lib.hid hR
  clear hA hR
  go_enter Try.func10, Try.ntmps10
  go_wp2_with fail
  with_reducible refine HAt.out.mono ?_
  rintro e w1 ⟨g, a1, c1, rfl, hg1, hg2, hO, hB⟩
  simp only [World.size_alloc] at hg1
  have hO : LK.Own w1 (w.heap.size + 3) (.slice a1 l.length c1) l := hO.mono (by simp)
  have hB : Below (w.heap.size + 2) _ w1 := hB.mono (by simp)
  have hs1 := hB.size
  simp only [World.size_alloc] at hs1
  have hb1 := below1 w1 (.cells #[.pointer (some ⟨g, 0, none⟩)] 43)
  have HD := Lib.hid (cut_behind cap cl l er cap2 L cl2 HR.out hl hcap a1 c1 g w1.heap.size (w.heap.size + 3) _ (laid1 w1 _) ((hb1.block g (lt_of_block hg2)).trans hg2) (hO.below hb1 (Nat.le_refl _)) (by omega))
  have HB1 := Lib.hid (HB0.out.trans ((hB.mono (by omega)).trans (hb1.mono (by omega))))
  have HQ1 := Lib.hid ((hb1.block _ (by omega)).trans ((hB.block _ (by omega)).trans HQ0.out))
  clear hg2 hO hB hb1 HAt
  go_wp2_with fail
  with_reducible refine HD.out.mono ?_
  rintro e w2 ⟨a2, c2, rfl, hL, hB⟩
  have hQ2 := (hB.block _ (by omega)).trans HQ1.out
  have HQ2 := Lib.hid hQ2
  have HB2 := Lib.hid (HB1.out.trans (hB.mono (by omega)))
  have HL := Lib.hid hL
  obtain ⟨⟨p0, p1, p2⟩, p3, p4, p5⟩ := box3 hQ2
  clear hL hB hQ2 HD
  go_wp2_with fail
  change bodyPost _ _ _ _ _ (set3 w2 (w.heap.size + 1) (.int .i64 cap2) (.slice a2 L.length c2) (.bool cl2))
  refine bodyPost_ret (res_cell_tmp rfl _ _ _ (w.heap.size + 1) rfl _ (load3 (set3_at HQ2.out _ _ _))) rfl ?_
  exact ⟨a2, c2, rfl, loose_mono (set3_loose HL.out (by omega) _ _ _) (by omega), set3_below HB2.out (by omega) _ _ _⟩


set_option maxHeartbeats 4000000 in
set_option maxRecDepth 1000000 in
theorem enter_behind (cap : Int) (cl : Bool) (l : List Lt) (er cap2 : Int) (L : List Lt) (cl2 : Bool) (hR : EnterR cap l cl er cap2 L cl2) (hl : l.length ≤ 100000) (hcap : cap ≤ 9223372036854775807) (a : Option Addr) (c g gp base : Nat) (W : World) (hp : W.heap[gp]? = some (.cells #[.pointer (some ⟨g, 0, none⟩)] 43 (0, 0))) (hg : W.heap[g]? = some (.cells #[.int .i64 cap, .slice a l.length c, .bool cl] 47 (0, 0)))
    (hO : LK.Own W base (.slice a l.length c) l) (hbg : base ≤ g) :
    Calls Try.prog 28 #[.pointer (some ⟨g, 0, none⟩), .func (.func 31) #[] #[.pointer (some ⟨gp, 0, none⟩)]] W fun e w' => ∃ a' c', e = .returned (.tuple #[.agg #[.int .i64 cap2, .slice a' L.length c', .bool cl2], .int .i64 er]) ∧ LK.Loose w' base a' c' L ∧ Below base W w' := by
  have hglt := lt_of_block hg
  have hplt := lt_of_block hp
  have hbW : base ≤ W.heap.size := by omega
  have hbZ := below1 W (.cells #[.int .i64 0, .slice none 0 0, .bool false] 24)
  have hgZ := (hbZ.block g hglt).trans hg
  have hpZ := (hbZ.block gp hplt).trans hp
  have hZ := laid1 W (.cells #[.int .i64 0, .slice none 0 0, .bool false] 24)
  have hOZ := hO.below hbZ (Nat.le_refl _)
  have hE := enter_fn Try.func31 (by kernel_rfl) rfl
  rcases hR with ⟨rfl, rfl, rfl, rfl, rfl⟩ | ⟨rfl, hn, rfl, rfl, rfl, rfl⟩ | ⟨rfl, hn, rfl, rfl, hL, rfl⟩
  · refine (behind_bad 31 _ g W hE 52 (by decide) base hbW ((enter1_shut cap a l.length c g gp _ hpZ hgZ).mono ?_)).mono ?_
    · rintro e w' ⟨rfl, hb⟩
      exact ⟨rfl, (hb.block _ (by simp)).trans hZ, ((hbZ.mono hbW).trans (hb.mono (by simp; omega)))⟩
    · rintro e w' ⟨rfl, hb⟩
      exact ⟨none, 0, rfl, loose_nil _ _, hb⟩
  · refine (behind_bad 31 _ g W hE 50 (by decide) base hbW ((enter1_full cap a l.length c g gp _ hcap hn hpZ hgZ).mono ?_)).mono ?_
    · rintro e w' ⟨rfl, hb⟩
      exact ⟨rfl, (hb.block _ (by simp)).trans hZ, ((hbZ.mono hbW).trans (hb.mono (by simp; omega)))⟩
    · rintro e w' ⟨rfl, hb⟩
      exact ⟨none, 0, rfl, loose_nil _ _, hb⟩
  · refine behind_ok 31 _ g W hE cap2 false L base base hbW hglt ((enter1_ok cap2 l L hL a c g gp base _ hcap hl hn hpZ hgZ hOZ hbg (by simp; omega)).mono ?_)
    rintro e w' ⟨a2, c2, rfl, h1, h2, h3, h4⟩
    have hq := (h4 W.heap.size (by simp) (by omega) (hOZ.ne hZ (by decide))).trans hZ
    exact ⟨a2, c2, rfl, h1, Clear.mk h2 (h2.ne hq (by decide)), hq, (hbZ.mono hbW).trans h3⟩

set_option maxHeartbeats 4000000 in
set_option maxRecDepth 1000000 in
theorem enter_any (cap : Int) (cl : Bool) (l : List Lt) (er cap2 : Int) (L : List Lt) (cl2 : Bool) (hR : EnterR cap l cl er cap2 L cl2) (hl : l.length ≤ 100000) (hcap : cap ≤ 9223372036854775807) (a : Option Addr) (c : Nat) (w : World) (hA : LK.RowC w a c l) :
    Calls Try.prog 15 #[.agg #[.int .i64 cap, .slice a l.length c, .bool cl]] w fun e w' => ∃ a' c', e = .returned (.tuple #[.agg #[.int .i64 cap2, .slice a' L.length c', .bool cl2], .int .i64 er]) ∧ LK.Loose w' w.heap.size a' c' L ∧ Below w.heap.size w w' := by
  have HB0 := Lib.hid (below2 w (.cells #[.int .i64 cap, .slice a l.length c, .bool cl] 24) (.cells #[.int .i64 0, .slice none 0 0, .bool false] 24))
  have HQ0 := Lib.hid (laid2 w (.cells #[.int .i64 cap, .slice a l.length c, .bool cl] 24) (.cells #[.int .i64 0, .slice none 0 0, .bool false] 24)).2
  have HAt := Lib.hid (at_any cap l cl a c _ hl (hA.below HB0.out))
  have HR := Lib.hid hR
  clear hA hR
  go_enter Try.func15, Try.ntmps15
  go_wp2_with fail
  with_reducible refine HAt.out.mono ?_
  rintro e w1 ⟨g, a1, c1, rfl, hg1, hg2, hO, hB⟩
  simp only [World.size_alloc] at hg1
  have hO : LK.Own w1 (w.heap.size + 3) (.slice a1 l.length c1) l := hO.mono (by simp)
  have hB : Below (w.heap.size + 2) _ w1 := hB.mono (by simp)
  have hs1 := hB.size
  simp only [World.size_alloc] at hs1
  have hb1 := below1 w1 (.cells #[.pointer (some ⟨g, 0, none⟩)] 43)
  have HD := Lib.hid (enter_behind cap cl l er cap2 L cl2 HR.out hl hcap a1 c1 g w1.heap.size (w.heap.size + 3) _ (laid1 w1 _) ((hb1.block g (lt_of_block hg2)).trans hg2) (hO.below hb1 (Nat.le_refl _)) (by omega))
  have HB1 := Lib.hid (HB0.out.trans ((hB.mono (by omega)).trans (hb1.mono (by omega))))
  have HQ1 := Lib.hid ((hb1.block _ (by omega)).trans ((hB.block _ (by omega)).trans HQ0.out))
  clear hg2 hO hB hb1 HAt
  go_wp2_with fail
  with_reducible refine HD.out.mono ?_
  rintro e w2 ⟨a2, c2, rfl, hL, hB⟩
  have hQ2 := (hB.block _ (by omega)).trans HQ1.out
  have HQ2 := Lib.hid hQ2
  have HB2 := Lib.hid (HB1.out.trans (hB.mono (by omega)))
  have HL := Lib.hid hL
  obtain ⟨⟨p0, p1, p2⟩, p3, p4, p5⟩ := box3 hQ2
  clear hL hB hQ2 HD
  go_wp2_with fail
  change bodyPost _ _ _ _ _ (set3 w2 (w.heap.size + 1) (.int .i64 cap2) (.slice a2 L.length c2) (.bool cl2))
  refine bodyPost_ret (res_cell_tmp rfl _ _ _ (w.heap.size + 1) rfl _ (load3 (set3_at HQ2.out _ _ _))) rfl ?_
  exact ⟨a2, c2, rfl, loose_mono (set3_loose HL.out (by omega) _ _ _) (by omega), set3_below HB2.out (by omega) _ _ _⟩


set_option maxHeartbeats 4000000 in
set_option maxRecDepth 1000000 in
theorem leave_behind (cap : Int) (cl : Bool) (l : List Lt) (er cap2 : Int) (L : List Lt) (cl2 : Bool) (hR : LeaveR cap l cl er cap2 L cl2) (hl : l.length ≤ 100000) (hcap : cap ≤ 9223372036854775807) (a : Option Addr) (c g gp base : Nat) (W : World) (hp : W.heap[gp]? = some (.cells #[.pointer (some ⟨g, 0, none⟩)] 43 (0, 0))) (hg : W.heap[g]? = some (.cells #[.int .i64 cap, .slice a l.length c, .bool cl] 47 (0, 0)))
    (hO : LK.Own W base (.slice a l.length c) l) (hbg : base ≤ g) :
    Calls Try.prog 28 #[.pointer (some ⟨g, 0, none⟩), .func (.func 33) #[] #[.pointer (some ⟨gp, 0, none⟩)]] W fun e w' => ∃ a' c', e = .returned (.tuple #[.agg #[.int .i64 cap2, .slice a' L.length c', .bool cl2], .int .i64 er]) ∧ LK.Loose w' base a' c' L ∧ Below base W w' := by
  have hglt := lt_of_block hg
  have hplt := lt_of_block hp
  have hbW : base ≤ W.heap.size := by omega
  have hbZ := below1 W (.cells #[.int .i64 0, .slice none 0 0, .bool false] 24)
  have hgZ := (hbZ.block g hglt).trans hg
  have hpZ := (hbZ.block gp hplt).trans hp
  have hZ := laid1 W (.cells #[.int .i64 0, .slice none 0 0, .bool false] 24)
  have hOZ := hO.below hbZ (Nat.le_refl _)
  have hE := enter_fn Try.func33 (by kernel_rfl) rfl
  rcases hR with ⟨rfl, rfl, rfl, rfl, rfl⟩ | ⟨hn, rfl, rfl, hL, rfl⟩
  · refine (behind_bad 33 _ g W hE 51 (by decide) base hbW ((leave1_bad cap a c g gp cl _ hpZ hgZ).mono ?_)).mono ?_
    · rintro e w' ⟨rfl, hb⟩
      exact ⟨rfl, (hb.block _ (by simp)).trans hZ, ((hbZ.mono hbW).trans (hb.mono (by simp; omega)))⟩
    · rintro e w' ⟨rfl, hb⟩
      exact ⟨none, 0, rfl, loose_nil _ _, hb⟩
  · obtain ⟨m, hL⟩ : ∃ m, l = m :: L := by
      cases l with
      | nil => exact absurd rfl hn
      | cons m l => exact ⟨m, by rw [hL]; rfl⟩
    refine behind_ok 33 _ g W hE cap2 cl2 L base base hbW hglt ((leave1_ok cap2 cl2 l m L hL a c g gp base _ hl hpZ hgZ hOZ hbg).mono ?_)
    rintro e w' ⟨a2, c2, rfl, h1, h2, h5, h3, h4⟩
    have hq := (h4 W.heap.size (by simp) (by omega)).trans hZ
    have hne := hOZ.ne hZ (by decide)
    exact ⟨a2, c2, rfl, h1, ⟨h2, fun ad e => by obtain ⟨ad0, e0, e1⟩ := h5 ad e; rw [e1]; subst e0; simpa [Value.ownBlock] using hne⟩, hq, (hbZ.mono hbW).trans (h3.mono hbg)⟩

set_option maxHeartbeats 4000000 in
set_option maxRecDepth 1000000 in
theorem leave_any (cap : Int) (cl : Bool) (l : List Lt) (er cap2 : Int) (L : List Lt) (cl2 : Bool) (hR : LeaveR cap l cl er cap2 L cl2) (hl : l.length ≤ 100000) (hcap : cap ≤ 9223372036854775807) (a : Option Addr) (c : Nat) (w : World) (hA : LK.RowC w a c l) :
    Calls Try.prog 17 #[.agg #[.int .i64 cap, .slice a l.length c, .bool cl]] w fun e w' => ∃ a' c', e = .returned (.tuple #[.agg #[.int .i64 cap2, .slice a' L.length c', .bool cl2], .int .i64 er]) ∧ LK.Loose w' w.heap.size a' c' L ∧ Below w.heap.size w w' := by
  have HB0 := Lib.hid (below2 w (.cells #[.int .i64 cap, .slice a l.length c, .bool cl] 24) (.cells #[.int .i64 0, .slice none 0 0, .bool false] 24))
  have HQ0 := Lib.hid (laid2 w (.cells #[.int .i64 cap, .slice a l.length c, .bool cl] 24) (.cells #[.int .i64 0, .slice none 0 0, .bool false] 24)).2
  have HAt := Lib.hid (at_any cap l cl a c _ hl (hA.below HB0.out))
  have HR := Lib.hid hR
  clear hA hR
  go_enter Try.func17, Try.ntmps17
  go_wp2_with fail
  with_reducible refine HAt.out.mono ?_
  rintro e w1 ⟨g, a1, c1, rfl, hg1, hg2, hO, hB⟩
  simp only [World.size_alloc] at hg1
  have hO : LK.Own w1 (w.heap.size + 3) (.slice a1 l.length c1) l := hO.mono (by simp)
  have hB : Below (w.heap.size + 2) _ w1 := hB.mono (by simp)
  have hs1 := hB.size
  simp only [World.size_alloc] at hs1
  have hb1 := below1 w1 (.cells #[.pointer (some ⟨g, 0, none⟩)] 43)
  have HD := Lib.hid (leave_behind cap cl l er cap2 L cl2 HR.out hl hcap a1 c1 g w1.heap.size (w.heap.size + 3) _ (laid1 w1 _) ((hb1.block g (lt_of_block hg2)).trans hg2) (hO.below hb1 (Nat.le_refl _)) (by omega))
  have HB1 := Lib.hid (HB0.out.trans ((hB.mono (by omega)).trans (hb1.mono (by omega))))
  have HQ1 := Lib.hid ((hb1.block _ (by omega)).trans ((hB.block _ (by omega)).trans HQ0.out))
  clear hg2 hO hB hb1 HAt
  go_wp2_with fail
  with_reducible refine HD.out.mono ?_
  rintro e w2 ⟨a2, c2, rfl, hL, hB⟩
  have hQ2 := (hB.block _ (by omega)).trans HQ1.out
  have HQ2 := Lib.hid hQ2
  have HB2 := Lib.hid (HB1.out.trans (hB.mono (by omega)))
  have HL := Lib.hid hL
  obtain ⟨⟨p0, p1, p2⟩, p3, p4, p5⟩ := box3 hQ2
  clear hL hB hQ2 HD
  go_wp2_with fail
  change bodyPost _ _ _ _ _ (set3 w2 (w.heap.size + 1) (.int .i64 cap2) (.slice a2 L.length c2) (.bool cl2))
  refine bodyPost_ret (res_cell_tmp rfl _ _ _ (w.heap.size + 1) rfl _ (load3 (set3_at HQ2.out _ _ _))) rfl ?_
  exact ⟨a2, c2, rfl, loose_mono (set3_loose HL.out (by omega) _ _ _) (by omega), set3_below HB2.out (by omega) _ _ _⟩

end Go.Proofs.Ytfplkjnnnbknoaa
