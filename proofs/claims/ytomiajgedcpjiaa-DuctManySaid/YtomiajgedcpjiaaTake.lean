/- Take. -/
import Derived.Test.YtomiajgedcpjiaaPut
import Derived.BigRegion
set_option linter.unusedSimpArgs false
set_option linter.unusedVariables false
namespace Go.Proofs.Ytomiajgedcpjiaa
open Go.RowKit Go.Proofs.Ytomiajgedcpjiaa.Kind

/-- What Take answers: the letter, and what is left. -/
def TakeR (cl : Bool) (l : List Lt) (er : Int) (m : Lt) (L : List Lt) : Prop := (l = [] ∧ m = Lt.zero ∧ L = [] ∧ er = if cl then 0 else 51) ∨ (l = m :: L ∧ er = 0)

/-- A variable of six cells. -/
theorem box6 {w : World} {g : Nat} {x0 x1 x2 x3 x4 x5 : Value} {t : TypeId} (h : w.heap[g]? = some (.cells #[x0, x1, x2, x3, x4, x5] t (0, 0))) :
    (w.cell? ⟨g, 0, none⟩ = some x0 ∧ w.cell? ⟨g, 1, none⟩ = some x1 ∧ w.cell? ⟨g, 2, none⟩ = some x2 ∧ w.cell? ⟨g, 3, none⟩ = some x3 ∧ w.cell? ⟨g, 4, none⟩ = some x4 ∧ w.cell? ⟨g, 5, none⟩ = some x5) ∧
    (w.frozen? ⟨g, 0, none⟩ = false ∧ w.frozen? ⟨g, 1, none⟩ = false ∧ w.frozen? ⟨g, 2, none⟩ = false ∧ w.frozen? ⟨g, 3, none⟩ = false ∧ w.frozen? ⟨g, 4, none⟩ = false ∧ w.frozen? ⟨g, 5, none⟩ = false) := by
  simp [World.cell?, World.frozen?, h]
def set6 (w : World) (b : Nat) (m : Lt) : World := (((((w.setCell ⟨b, 0, none⟩ (.int .i8 m.kind)).setCell ⟨b, 1, none⟩ (.int .i64 m.fr)).setCell ⟨b, 2, none⟩ (.int .i64 m.num)).setCell ⟨b, 3, none⟩ (.int .i64 m.sock)).setCell ⟨b, 4, none⟩ (.string m.text)).setCell ⟨b, 5, none⟩ (.int .i64 m.e)
theorem set6_at {w : World} {b : Nat} {x0 x1 x2 x3 x4 x5 : Value} {t : TypeId} (h : w.heap[b]? = some (.cells #[x0, x1, x2, x3, x4, x5] t (0, 0))) (m : Lt) : (set6 w b m).heap[b]? = some (.cells #[.int .i8 m.kind, .int .i64 m.fr, .int .i64 m.num, .int .i64 m.sock, .string m.text, .int .i64 m.e] t (0, 0)) :=
  set_at (set_at (set_at (set_at (set_at (set_at h 0 _) 1 _) 2 _) 3 _) 4 _) 5 _
theorem set6_other (w : World) (b g : Nat) (m : Lt) (h : g ≠ b) : (set6 w b m).heap[g]? = w.heap[g]? := by
  unfold set6
  repeat rw [Below.heap_setCell _ _ _ g h]
theorem set6_below {w0 w : World} {n b : Nat} (h : Below n w0 w) (hn : n ≤ b) (m : Lt) : Below n w0 (set6 w b m) := (((((h.setCell (p := ⟨b, 0, none⟩) hn _).setCell (p := ⟨b, 1, none⟩) hn _).setCell (p := ⟨b, 2, none⟩) hn _).setCell (p := ⟨b, 3, none⟩) hn _).setCell (p := ⟨b, 4, none⟩) hn _).setCell (p := ⟨b, 5, none⟩) hn _
theorem set6_far {α : Type} {K : Kind Try.prog α} {w : World} {base b : Nat} {a : Option Addr} {c : Nat} {l : List α} (h : K.FarC w base a c l) (hb : b < base) (m : Lt) : K.FarC (set6 w b m) base a c l :=
  (((((h.set (p := ⟨b, 0, none⟩) hb _).set (p := ⟨b, 1, none⟩) hb _).set (p := ⟨b, 2, none⟩) hb _).set (p := ⟨b, 3, none⟩) hb _).set (p := ⟨b, 4, none⟩) hb _).set (p := ⟨b, 5, none⟩) hb _
theorem set6_own {α : Type} {K : Kind Try.prog α} {w : World} {base b : Nat} {v : Value} {l : List α} (h : K.Own w base v l) (hb : b < base) (m : Lt) : K.Own (set6 w b m) base v l :=
  (((((h.set (p := ⟨b, 0, none⟩) hb _).set (p := ⟨b, 1, none⟩) hb _).set (p := ⟨b, 2, none⟩) hb _).set (p := ⟨b, 3, none⟩) hb _).set (p := ⟨b, 4, none⟩) hb _).set (p := ⟨b, 5, none⟩) hb _
/-- A row whose block is none of a block of another type. -/
theorem FarC.setNe {w : World} {base g : Nat} {a : Option Addr} {n c : Nat} {l : List Lt} (h : LK.Own w base (.slice a n c) l) (hg : (Value.slice a n c).ownBlock ≠ some g) (i : Nat) (x : Value) : LK.FarC (w.setCell ⟨g, i, none⟩ x) base a c l :=
  (h.setNe (p := ⟨g, i, none⟩) hg x).far

theorem take1_end (W w V : World) (g gm : Nat) (cap : Int) (k c : Nat) (cl : Bool) (m : Lt) (a2 : Option Addr) (b : Nat) (hV : V = (set6 W gm m).setCell ⟨g, 1, none⟩ (.slice a2 k (c - 1))) (hgg : g ≠ gm) (h1 : W.heap[g]? = some (.cells #[.int .i64 cap, .slice (some ⟨b, 0, none⟩) (k + 1) c, .bool cl] 26 (0, 0)))
    (h2 : W.heap[gm]? = some (.cells #[.int .i8 0, .int .i64 0, .int .i64 0, .int .i64 0, .string ⟨#[]⟩, .int .i64 0] 32 (0, 0))) (h3 : Below w.heap.size w W) (h4 : gm ≤ g ∧ gm ≤ w.heap.size) :
    V.drew.heap[g]? = some (.cells #[.int .i64 cap, .slice a2 k (c - 1), .bool cl] 26 (0, 0)) ∧
    V.drew.heap[gm]? = some (.cells #[.int .i8 m.kind, .int .i64 m.fr, .int .i64 m.num, .int .i64 m.sock, .string m.text, .int .i64 m.e] 32 (0, 0)) ∧
    Below gm w V.drew ∧ ∀ j, j < w.heap.size → j ≠ g → j ≠ gm → V.drew.heap[j]? = w.heap[j]? := by
  show V.heap[g]? = _ ∧ V.heap[gm]? = _ ∧ Below gm w V.drew ∧ ∀ j, j < w.heap.size → j ≠ g → j ≠ gm → V.heap[j]? = w.heap[j]?
  have e0 := set_at ((set6_other W gm g m hgg).trans h1) 1 (.slice a2 k (c - 1))
  have e1 := (Below.heap_setCell (set6 W gm m) ⟨g, 1, none⟩ (.slice a2 k (c - 1)) gm hgg.symm).trans (set6_at h2 m)
  have e2 : Below gm w (set6 W gm m) := set6_below (h3.mono h4.2) (Nat.le_refl _) m
  have e3 := (e2.setCell (p := ⟨g, 1, none⟩) h4.1 (.slice a2 k (c - 1)))
  have e4 : ∀ j, j < w.heap.size → j ≠ g → j ≠ gm → ((set6 W gm m).setCell ⟨g, 1, none⟩ (.slice a2 k (c - 1))).heap[j]? = w.heap[j]? := fun j hj hjg hjm => ((Below.heap_setCell (set6 W gm m) ⟨g, 1, none⟩ (.slice a2 k (c - 1)) j hjg).trans (set6_other W gm j m hjm)).trans (h3.block j hj)
  rw [← hV] at e0 e1 e3 e4
  exact ⟨e0, e1, e3.drew, e4⟩

set_option maxHeartbeats 4000000 in
set_option maxRecDepth 1000000 in
theorem take1_any (cap : Int) (cl : Bool) (l : List Lt) (er : Int) (m : Lt) (L : List Lt) (hR : TakeR cl l er m L) (hl : l.length ≤ 100000)
    (a : Option Addr) (c g gm base : Nat) (w : World) (hg : w.heap[g]? = some (.cells #[.int .i64 cap, .slice a l.length c, .bool cl] 26 (0, 0))) (hgm : w.heap[gm]? = some (.cells #[.int .i8 0, .int .i64 0, .int .i64 0, .int .i64 0, .string ⟨#[]⟩, .int .i64 0] 32 (0, 0)))
    (hO : LK.Own w base (.slice a l.length c) l) (hbg : base ≤ g) (hgb : gm < base) :
    Calls Try.prog 29 #[.pointer (some ⟨g, 0, none⟩), .pointer (some ⟨gm, 0, none⟩)] w fun e w' => ∃ a' c', e = .returned (.int .i64 er) ∧ w'.heap[g]? = some (.cells #[.int .i64 cap, .slice a' L.length c', .bool cl] 26 (0, 0)) ∧ LK.FarC w' base a' c' L ∧
      w'.heap[gm]? = some (.cells #[.int .i8 m.kind, .int .i64 m.fr, .int .i64 m.num, .int .i64 m.sock, .string m.text, .int .i64 m.e] 32 (0, 0)) ∧ Below gm w w' ∧ ∀ j, j < w.heap.size → j ≠ g → j ≠ gm → w'.heap[j]? = w.heap[j]? := by
  obtain ⟨⟨c0, c1, c2⟩, f0, f1, f2⟩ := box3 hg
  have HRd := Lib.hid (fun w => ready_any cap a l.length c cl w)
  have hglt := lt_of_block hg
  have hgmlt := lt_of_block hgm
  have HG := Lib.hid hg
  have HGm := Lib.hid hgm
  have HO := Lib.hid hO
  have HW := Lib.hid ((Below.refl w.heap.size w).alloc (Nat.le_refl _) (.cells #[.int .i64 cap, .slice a l.length c, .bool cl] 26))
  clear hg hgm hO
  rcases hR with ⟨rfl, rfl, rfl, rfl⟩ | ⟨hlm, rfl⟩
  · simp only [List.length_nil, Nat.lt_irrefl, decide_false, Bool.false_or] at HRd
    rw [List.length_nil] at *
    cases cl
    all_goals
      go_enter Try.func29, Try.ntmps29
      go_wp2_with fail
      with_reducible refine (HRd.out _).mono ?_
      rintro e w1 ⟨rfl, rfl⟩
      go_wp2_with fail
      go_ret
      exact ⟨rfl, a, c, (HW.out.block _ hglt).trans HG.out, HO.out.far.below HW.out, (HW.out.block _ hgmlt).trans HGm.out, HW.out.mono (by omega), fun j hj _ _ => HW.out.block _ hj⟩
  · obtain ⟨k, hk⟩ : ∃ k, L.length = k := ⟨_, rfl⟩
    have hn : l.length = k + 1 := by rw [hlm]; simp [hk]
    have hdec : decide (0 < l.length) = true := by simp; omega
    rw [hdec] at HRd
    rw [hk]
    simp only [Bool.true_or] at HRd
    obtain ⟨a', c', e, hm⟩ := HO.out.mine
    injection e with e1 e2 e3
    subst e1 e3
    obtain ⟨b, cur, t, rfl, hbb, hbk, h4, h5⟩ := hm.2.2.2 (by omega)
    have hat := (at_of hbk h4 h5).below HW.out (lt_heap' hbk)
    obtain ⟨z0, z1, z2, z3, z4, z5⟩ := LK.six hat (j := 0) (x := m) (by rw [hlm]; rfl)
    have hne := HO.out.ne HG.out (by decide)
    have hbg2 : b ≠ g := by simpa [Value.ownBlock] using hne
    have hbm : b ≠ gm := by omega
    have hgg : g ≠ gm := by omega
    have hcc := hm.1
    have HOW := Lib.hid (HO.out.below HW.out (Nat.le_refl _))
    have HGW := Lib.hid ((HW.out.block _ hglt).trans HG.out)
    have HGmW := Lib.hid ((HW.out.block _ hgmlt).trans HGm.out)
    have hKs : l.drop 1 = L := by rw [hlm]; rfl
    have HKs := Lib.hid hKs
    have HNe := Lib.hid hne
    clear hat hm h4 h5 hbk hne hdec hKs e2 f0 f1 f2 HG HGm
    generalize hW : w.alloc (.cells #[.int .i64 cap, .slice (some ⟨b, 0, none⟩) l.length c, .bool cl] 26) = W at *
    obtain ⟨⟨p0, p1, p2⟩, p3, p4, p5⟩ := box3 HGW.out
    obtain ⟨⟨q0, q1, q2, q3, q4, q5⟩, r0, r1, r2, r3, r4, r5⟩ := box6 HGmW.out
    have HLn := Lib.hid (show ∃ x, l = x :: L from ⟨m, hlm⟩)
    rw [hn] at *
    simp only [Nat.zero_mul, Nat.add_zero, Nat.zero_add] at z0 z1 z2 z3 z4 z5
    have hk1 : (1 : Int) ≤ (k : Int) + 1 := by omega
    have hk2 : (k : Int) + 1 ≤ (c : Int) := by omega
    have hc2 := HO.out.row.2.1
    unfold maxLen at hc2
    have HC2 := Lib.hid hc2
    clear hc2 hn hlm
    go_enter Try.func29, Try.ntmps29
    go_wp2_with fail
    with_reducible refine (HRd.out _).mono ?_
    rintro e w1 ⟨rfl, hw⟩
    rw [hW] at hw
    subst w1
    clear hW
    go_wp2_with fail
    have HX := Lib.hid (show (if c = 1 then some (⟨b, 0, none⟩ : Addr) else some ⟨b, 6, none⟩) = if c = 1 then some (⟨b, 0, none⟩ : Addr) else (some (⟨b, 0, none⟩ : Addr)).map (·.add (1 * LK.k)) by simp [add_at']; rfl)
    have hKL : (Value.slice (some ⟨b, 0, none⟩) (k + 1) c).ownBlock = some b := rfl
    have HN := Lib.hid (show (Value.slice (some ⟨b, 0, none⟩) (k + 1) c).ownBlock ≠ some g by rw [hKL]; simpa using hbg2)
    have HFar := Lib.hid (((set6_own HOW.out hgb m).setNe (p := ⟨g, 1, none⟩) HN.out (.slice (if c = 1 then some ⟨b, 0, none⟩ else some ⟨b, 6, none⟩) k (c - 1))).far.drop 1 (by obtain ⟨x, hx⟩ := HLn.out; rw [hx]; simp) HX.out)
    rw [HKs.out] at HFar
    clear hKL
    have HH := Lib.hid (take1_end W w _ g gm cap k c cl m (if c = 1 then some ⟨b, 0, none⟩ else some ⟨b, 6, none⟩) b rfl hgg HGW.out HGmW.out HW.out ⟨by omega, by omega⟩)
    have HF2 := Lib.hid HFar.out.draw
    unfold set6 at HH HF2
    go_region
    generalize (if c = 1 then some (⟨b, 0, none⟩ : Addr) else some ⟨b, 6, none⟩) = a2 at *
    go_wp2_with fail
    go_ret
    exact ⟨a2, c - 1, rfl, HH.out.1, HF2.out, HH.out.2⟩
end Go.Proofs.Ytomiajgedcpjiaa
