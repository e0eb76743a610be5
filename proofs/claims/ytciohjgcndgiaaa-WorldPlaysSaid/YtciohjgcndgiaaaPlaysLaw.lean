/- Sockets and record go together behind whatever events. -/
import Derived.Test.YtciohjgcndgiaaaWakes
import Derived.Test.YtciohjgcndgiaaaWorldSame
import Derived.Test.YtciohjgcndgiaaaSpecs
import Derived.Test.YtciohjgcndgiaaaCheck8W
import Derived.Deep.CutBlock
import Derived.Test.YtciohjgcndgiaaaScripts
import Derived.Test.YtciohjgcndgiaaaActs
set_option linter.unusedSimpArgs false
set_option linter.unusedVariables false
namespace Go.Proofs.Ytciohjgcndgiaaa
open Go.RowKit Go.Proofs.Ytciohjgcndgiaaa.Kind

def set6 (w : World) (b : Nat) (x0 x1 x2 x3 x4 x5 : Value) : World := ((((((w.setCell ⟨b, 0, none⟩ x0).setCell ⟨b, 1, none⟩ x1).setCell ⟨b, 2, none⟩ x2).setCell ⟨b, 3, none⟩ x3).setCell ⟨b, 4, none⟩ x4).setCell ⟨b, 5, none⟩ x5)
set_option maxHeartbeats 1000000 in
theorem set6_at {w : World} {b : Nat} {y0 y1 y2 y3 y4 y5 : Value} {t : TypeId} (h : w.heap[b]? = some (.cells #[y0, y1, y2, y3, y4, y5] t (0, 0))) (x0 x1 x2 x3 x4 x5 : Value) :
    (set6 w b x0 x1 x2 x3 x4 x5).heap[b]? = some (.cells #[x0, x1, x2, x3, x4, x5] t (0, 0)) :=
  by
  have h0 : (w.setCell ⟨b, 0, none⟩ x0).heap[b]? = some (.cells #[x0, y1, y2, y3, y4, y5] t (0, 0)) := set_at h 0 x0
  have h1 : ((w.setCell ⟨b, 0, none⟩ x0).setCell ⟨b, 1, none⟩ x1).heap[b]? = some (.cells #[x0, x1, y2, y3, y4, y5] t (0, 0)) := set_at h0 1 x1
  have h2 : (((w.setCell ⟨b, 0, none⟩ x0).setCell ⟨b, 1, none⟩ x1).setCell ⟨b, 2, none⟩ x2).heap[b]? = some (.cells #[x0, x1, x2, y3, y4, y5] t (0, 0)) := set_at h1 2 x2
  have h3 : ((((w.setCell ⟨b, 0, none⟩ x0).setCell ⟨b, 1, none⟩ x1).setCell ⟨b, 2, none⟩ x2).setCell ⟨b, 3, none⟩ x3).heap[b]? = some (.cells #[x0, x1, x2, x3, y4, y5] t (0, 0)) := set_at h2 3 x3
  have h4 : (((((w.setCell ⟨b, 0, none⟩ x0).setCell ⟨b, 1, none⟩ x1).setCell ⟨b, 2, none⟩ x2).setCell ⟨b, 3, none⟩ x3).setCell ⟨b, 4, none⟩ x4).heap[b]? = some (.cells #[x0, x1, x2, x3, x4, y5] t (0, 0)) := set_at h3 4 x4
  have h5 : ((((((w.setCell ⟨b, 0, none⟩ x0).setCell ⟨b, 1, none⟩ x1).setCell ⟨b, 2, none⟩ x2).setCell ⟨b, 3, none⟩ x3).setCell ⟨b, 4, none⟩ x4).setCell ⟨b, 5, none⟩ x5).heap[b]? = some (.cells #[x0, x1, x2, x3, x4, x5] t (0, 0)) := set_at h4 5 x5
  exact h5
theorem set6_other (w : World) (b g : Nat) (x0 x1 x2 x3 x4 x5 : Value) (h : g ≠ b) : (set6 w b x0 x1 x2 x3 x4 x5).heap[g]? = w.heap[g]? := by
  unfold set6
  repeat rw [Below.heap_setCell _ _ _ g h]
theorem set6_below {w0 w : World} {n b : Nat} (h : Below n w0 w) (hn : n ≤ b) (x0 x1 x2 x3 x4 x5 : Value) : Below n w0 (set6 w b x0 x1 x2 x3 x4 x5) := ((((((h.setCell (p := ⟨b, 0, none⟩) hn _).setCell (p := ⟨b, 1, none⟩) hn _).setCell (p := ⟨b, 2, none⟩) hn _).setCell (p := ⟨b, 3, none⟩) hn _).setCell (p := ⟨b, 4, none⟩) hn _).setCell (p := ⟨b, 5, none⟩) hn _)
theorem set6_flat {N : Nat → Prop} {w : World} {b : Nat} {v : Wv} {A : Wo} (h : FlatN N w v A) (hb : N b) (x0 x1 x2 x3 x4 x5 : Value) : FlatN N (set6 w b x0 x1 x2 x3 x4 x5) v A := ((((((h.set (p := ⟨b, 0, none⟩) hb _).set (p := ⟨b, 1, none⟩) hb _).set (p := ⟨b, 2, none⟩) hb _).set (p := ⟨b, 3, none⟩) hb _).set (p := ⟨b, 4, none⟩) hb _).set (p := ⟨b, 5, none⟩) hb _)
theorem tick_same {A B : Wo} {r : Int} (hB : B = tickP A) (hr : r = tickE A) (h : r ≠ 0) : B = A := by rw [hB]; exact tick_not (by rw [← hr]; exact h)
theorem drop_same {A B : Wo} {r : Int} (hB : B = dropP A) (hr : r = dropE A) (h : r ≠ 0) : B = A := by rw [hB]; exact drop_not (by rw [← hr]; exact h)
theorem dial_same {A B : Wo} {r y : Int} {a : Ad} (hB : B = dialP A y a) (hr : r = dialE A y a) (h : r ≠ 0) : B = A := by rw [hB]; exact dial_not (by rw [← hr]; exact h)
theorem shut_same {A B : Wo} {r n : Int} (hB : B = shutP A n) (hr : r = shutE A n) (h : r ≠ 0) : B = A := by rw [hB]; exact shut_not (by rw [← hr]; exact h)
theorem PlaysInv.room {P : Pl} {A : Wo} {i well under : Nat} (h : PlaysInv P A i well under) (hi : i ≤ 200) (hf : Few P) (ht : P.ticks ≤ 200) (hm : Mem P) : Room A := by
  have h1 := h.lens
  have h2 := h.plan
  have h3 := h.cl
  have h4 := goes_few h.goes
  exact ⟨by rw [h2]; exact hm, by rw [h2]; exact hf, by omega, by omega, by omega, by omega, by rw [h2]; omega, by omega⟩
theorem PlaysInv.small {P : Pl} {A : Wo} {i well under : Nat} (h : PlaysInv P A i well under) : well ≤ i ∧ under ≤ i := by
  have h1 := h.lens
  have h2 := h.well_
  have h3 := h.under_
  have h4 := goes_few h.goes
  have h5 : A.dials.countP (fun d => !d.over) ≤ A.dials.length := List.countP_le_length
  omega
structure PlaysK (P : Pl) (A : Wo) (i well under : Nat) : Prop extends PlaysInv P A i well under where
  oks : ∀ d ∈ A.dials, okA d.ad
theorem mem_set_ad {l : List Di} {k : Nat} {x : Di} (h : ∀ d ∈ l, okA d.ad) (hx : okA x.ad) : ∀ d ∈ l.set k x, okA d.ad := fun d hd => by
  rcases List.mem_or_eq_of_mem_set hd with h1 | h1
  · exact h d h1
  · rw [h1]; exact hx
theorem PlaysK.more {P : Pl} {A : Wo} {i well under : Nat} (h : PlaysK P A i well under) : PlaysK P A (i + 1) well under := ⟨h.toPlaysInv.more, h.oks⟩
theorem invk_new {P : Pl} (ht : 0 ≤ P.ticks) : PlaysK P (Wo.new P) 0 0 0 := ⟨inv_new ht, by simp [Wo.new]⟩
theorem invk_tick {P : Pl} {A : Wo} {i well under : Nat} (h : PlaysK P A i well under) : PlaysK P (tickP A) (i + 1) well under := ⟨inv_tick h.toPlaysInv, by unfold tickP; split <;> exact h.oks⟩
theorem invk_drop {P : Pl} {A : Wo} {i well under : Nat} (h : PlaysK P A i well under) : PlaysK P (dropP A) (i + 1) well under := ⟨inv_drop h.toPlaysInv, by unfold dropP; split <;> exact h.oks⟩
theorem invk_dial {P : Pl} {A : Wo} {i well under : Nat} (h : PlaysK P A i well under) (y : Int) (a : Ad) (ha : okA a) : PlaysK P (dialP A y a) (i + 1) well (if dialE A y a = 0 then under + 1 else under) := ⟨inv_dial h.toPlaysInv y a, by
  unfold dialP
  split
  · intro d hd
    rcases List.mem_append.1 hd with h1 | h1
    · exact h.oks d h1
    · simp at h1
      rw [h1]
      exact ha
  · exact h.oks⟩
theorem invk_cut {P : Pl} {A : Wo} {i well under : Nat} (h : PlaysK P A i well under) (y : Int) : PlaysK P (cutP A y) (i + 1) well under := ⟨inv_cut h.toPlaysInv y, by
  unfold cutP
  split
  · exact h.oks
  · rename_i d hd
    split
    · exact h.oks
    · exact mem_set_ad h.oks (h.oks d (List.mem_of_getElem? (dialOf_some hd).2.1))⟩
theorem invk_end {P : Pl} {A : Wo} {i well under : Nat} (h : PlaysK P A i well under) (y : Int) (hr : readyP A y = true) : 1 ≤ under ∧ PlaysK P (endP A y) (i + 1) (if wellP A y = true then well + 1 else well) (under - 1) := ⟨(inv_end h.toPlaysInv y hr).1, (inv_end h.toPlaysInv y hr).2, by
  obtain ⟨d, hd, hrd⟩ := end_some hr
  have ho : okA d.ad := h.oks d (List.mem_of_getElem? (dialOf_some hd).2.1)
  unfold endP overP
  simp only [hd, hrd]
  split
  · rename_i h2
    cases h2
  · split
    · exact mem_set_ad h.oks ho
    · exact mem_set_ad h.oks ho⟩
theorem invk_shut {P : Pl} {A : Wo} {i well under : Nat} (h : PlaysK P A i well under) (hi : i ≤ 1000) (n : Int) : PlaysK P (shutP A n) (i + 1) well under := ⟨inv_shut h.toPlaysInv hi n, by
  unfold shutP
  split
  · exact h.oks
  · split <;> exact h.oks⟩
set_option maxHeartbeats 80000000 in
set_option maxRecDepth 1000000 in
theorem worldplays_walk (R : Rules) (HNew : NewSpec R) (HTick : TickSpec) (HDrop : DropSpec) (HDial : DialSpec) (HCut : CutSpec) (HReady : ReadySpec) (HEnd : EndSpec) (HUnder : UnderOkSpec) (HShut : ShutSpec) (HWk : WakesSpec) (P : Pl) (pv : Pv) (L : List Ac) (al : Option Addr) (cl : Nat) (w : World) (hM : Mem P) (hLo : ∀ x ∈ L, okA x.ad) (hP : PlanC w pv P) (hL : CK.RowC w al cl L) :
    Calls Try.prog 3 #[pv.val P, .slice al L.length cl] w fun e w' => e = .returned (.bool true) ∧ Below w.heap.size w w' := by
  have HWk := Lib.hid (fun w => HWk w)
  have HPL := Lib.hid (fun (W : World) (h : Below w.heap.size w W) => hP.below h)
  have HCL := Lib.hid (fun (W : World) (h : Below w.heap.size w W) => hL.below h)
  have hLm : L.length ≤ 9223372036854775807 := row_max hL
  have HGp := Lib.hid (fun w h => great_any pv P w h)
  have HN0 := Lib.hid (fun N w A r hN hp h1 h2 => HNew N P pv w A r hN hM hp h1 h2)
  have HTk := Lib.hid (fun N A v w B r hN hR hf hB hr => HTick N A v w B r hN hR hf hB hr)
  have HDr := Lib.hid (fun N A v w B r hN hR hf hB hr => HDrop N A v w B r hN hR hf hB hr)
  have HDl := Lib.hid (fun N A v y a w B r hN hR hf hB hr => HDial N A v y a w B r hN hR hf hB hr)
  have HRd := Lib.hid (fun A v y w r hR h hr => HReady A v y w r hR h hr)
  have HCt := Lib.hid (fun N A v y w B hN hR hf hB => HCut N A v y w B hN hR hf hB)
  have HEn := Lib.hid (fun N A v y w B m r hN hR hf h1 h2 h3 => HEnd N A v y w B m r hN hR hf h1 h2 h3)
  have HSh := Lib.hid (fun N A v n w B r hN hR hf hB hr => HShut N A v n w B r hN hR hf hB hr)
  have HUn := Lib.hid (fun A v w r hR hok h hr => HUnder A v [] none 0 w r hR (by simp) hok (by simp) h (row_none _) hr)
  have HLo := Lib.hid hLo
  have HFF := Lib.hid (show FatesFit P from hM.fates)
  have HMm := Lib.hid hM
  clear HNew HTick HDrop HDial HCut HReady HEnd HUnder HShut hP hL hM hLo
  simp only [Pv.val, Ad.v, List.length_nil] at HGp HN0 HDl HUn ⊢
  go_enter Try.func3, Try.ntmps3
  have HB := Lib.hid (Below.refl w.heap.size w)
  go_upto_region 1 with fail
  obtain ⟨bx2, hdx2⟩ : ∃ b, b = w.heap.size := ⟨_, rfl⟩
  have hgex2 : w.heap.size ≤ bx2 := by rw [hdx2]; exact HB.out.size
  obtain ⟨W1, hW1⟩ : ∃ X, X = w.alloc (.cells #[.slice pv.za P.zones.length pv.zc, .slice pv.fa P.fates.length pv.fc, .int .i64 P.ticks, .slice pv.da P.drops.length pv.dc] 26) := ⟨_, rfl⟩
  have hlx2 := laid1 w (.cells #[.slice pv.za P.zones.length pv.zc, .slice pv.fa P.fates.length pv.fc, .int .i64 P.ticks, .slice pv.da P.drops.length pv.dc] 26)
  have hbx2 := below1 w (.cells #[.slice pv.za P.zones.length pv.zc, .slice pv.fa P.fates.length pv.fc, .int .i64 P.ticks, .slice pv.da P.drops.length pv.dc] 26)
  rw [← hW1] at hlx2 hbx2 ⊢
  clear hW1
  replace HB := Lib.hid (HB.out.trans (hbx2.mono HB.out.size))
  rw [← hdx2] at hlx2 ⊢
  replace Hx2 := Lib.hid hlx2
  clear hlx2 hbx2 hdx2
  by_cases hck : checkB R P = true
  · obtain ⟨h1, h2⟩ := new_yes hck
    obtain ⟨⟨x2_c0, x2_c1, x2_c2, x2_c3⟩, x2_f0, x2_f1, x2_f2, x2_f3⟩ := box4 Hx2.out
    have HX := Lib.hid (HN0.out (fun b => b ∈ ([] : List Nat)) W1 _ _ (by intro b hb; simp only [List.mem_cons, List.not_mem_nil, or_false] at hb <;> omega) (HPL.out W1 HB.out) h1 h2)
    try simp only [Wv.val, Wv.cells, Ad.v] at HX
    go_wp2_with fail
    with_reducible refine HX.out.mono ?_
    rintro e wA ⟨⟨p1, a11, c11, a12, c12, a13, c13, a14, c14⟩, rfl, hfl, hb⟩
    clear h1 h2
    clear x2_c0 x2_c1 x2_c2 x2_c3 x2_f0 x2_f1 x2_f2 x2_f3
    replace Hx2 := Lib.hid ((hb.block _ (lt_of_block Hx2.out)).trans Hx2.out)
    replace HB := Lib.hid (HB.out.trans (hb.mono HB.out.size))
    replace Hf5 := Lib.hid hfl
    clear hb hfl HX
    simp only [Wv.val, Wv.cells, Lt.v]
    obtain ⟨⟨x2_c0, x2_c1, x2_c2, x2_c3⟩, x2_f0, x2_f1, x2_f2, x2_f3⟩ := box4 Hx2.out
    go_upto_region 2 with fail
    have HI0 := Lib.hid (invk_new (P := P) (check_few hck).2.2.1.1)
    generalize Wo.new P = A0 at *
    clear x2_c0 x2_c1 x2_c2 x2_c3 x2_f0 x2_f1 x2_f2 x2_f3
    obtain ⟨bx5, hdx5⟩ : ∃ b, b = wA.heap.size := ⟨_, rfl⟩
    have hgex5 : w.heap.size ≤ bx5 := by rw [hdx5]; exact HB.out.size
    have hltx2x5 : bx2 < bx5 := by rw [hdx5]; exact lt_of_block Hx2.out
    obtain ⟨W2, hW2⟩ : ∃ X, X = wA.alloc (.cells #[.slice p1.za A0.plan.zones.length p1.zc, .slice p1.fa A0.plan.fates.length p1.fc, .int .i64 A0.plan.ticks, .slice p1.da A0.plan.drops.length p1.dc, .int .i64 A0.clock, .slice a11 A0.socks.length c11, .slice a12 A0.dials.length c12, .slice a13 A0.looks.length c13, .int .i64 A0.dropped, .slice a14 A0.marks.length c14] 33) := ⟨_, rfl⟩
    have hlx5 := laid1 wA (.cells #[.slice p1.za A0.plan.zones.length p1.zc, .slice p1.fa A0.plan.fates.length p1.fc, .int .i64 A0.plan.ticks, .slice p1.da A0.plan.drops.length p1.dc, .int .i64 A0.clock, .slice a11 A0.socks.length c11, .slice a12 A0.dials.length c12, .slice a13 A0.looks.length c13, .int .i64 A0.dropped, .slice a14 A0.marks.length c14] 33)
    have hbx5 := below1 wA (.cells #[.slice p1.za A0.plan.zones.length p1.zc, .slice p1.fa A0.plan.fates.length p1.fc, .int .i64 A0.plan.ticks, .slice p1.da A0.plan.drops.length p1.dc, .int .i64 A0.clock, .slice a11 A0.socks.length c11, .slice a12 A0.dials.length c12, .slice a13 A0.looks.length c13, .int .i64 A0.dropped, .slice a14 A0.marks.length c14] 33)
    rw [← hW2] at hlx5 hbx5 ⊢
    clear hW2
    replace Hf5 := Lib.hid (Hf5.out.more (M := (fun b => b ∈ ([bx5] : List Nat))) (by intro b hb; simp only [List.mem_cons, List.not_mem_nil, or_false] at hb ⊢ <;> (first | omega | (right; omega))))
    replace Hx2 := Lib.hid ((hbx5.block _ (lt_of_block Hx2.out)).trans Hx2.out)
    replace Hf5 := Lib.hid (Hf5.out.below hbx5)
    replace HB := Lib.hid (HB.out.trans (hbx5.mono HB.out.size))
    rw [← hdx5] at hlx5 ⊢
    replace Hx5 := Lib.hid hlx5
    clear hlx5 hbx5 hdx5
    obtain ⟨⟨x2_c0, x2_c1, x2_c2, x2_c3⟩, x2_f0, x2_f1, x2_f2, x2_f3⟩ := box4 Hx2.out
    have HX := Lib.hid (HGp.out W2 (HPL.out W2 HB.out))
    try simp only [Wv.val, Wv.cells, Ad.v] at HX
    go_wp2_with fail
    with_reducible refine HX.out.mono ?_
    rintro e wB ⟨⟨rp, rfl, hfew⟩, hb⟩
    have HFE := Lib.hid hfew
    clear hfew HX
    clear x2_c0 x2_c1 x2_c2 x2_c3 x2_f0 x2_f1 x2_f2 x2_f3
    replace Hx2 := Lib.hid ((hb.block _ (lt_of_block Hx2.out)).trans Hx2.out)
    replace Hx5 := Lib.hid ((hb.block _ (lt_of_block Hx5.out)).trans Hx5.out)
    replace Hf5 := Lib.hid (Hf5.out.below hb)
    replace HB := Lib.hid (HB.out.trans (hb.mono HB.out.size))
    clear hb
    cases rp with
    | true =>
      go_wp2_with fail
      with_reducible refine (HWk.out _).mono ?_
      rintro e wf ⟨rfl, hb⟩
      have HBf := Lib.hid (HB.out.trans (hb.mono HB.out.size))
      clear hb
      go_wp2_with fail
      go_ret
      exact ⟨rfl, HBf.out⟩
    | false =>
      have HFew := Lib.hid (HFE.out (by trivial))
      have HCk := Lib.hid (check_few hck)
      clear HFE hck
      by_cases h100 : (100 : Int) < (L.length : Int)
      · go_wp2_with fail
        with_reducible refine (HWk.out _).mono ?_
        rintro e wf ⟨rfl, hb⟩
        have HBf := Lib.hid (HB.out.trans (hb.mono HB.out.size))
        clear hb
        go_wp2_with fail
        go_ret
        exact ⟨rfl, HBf.out⟩
      · go_wp2_with fail
        go_loopw [7, 8, 9] (fun u7 u8 u9 wr => ∃ (i wl un : Nat) (A : Wo) (p0 : Pv) (a1 : Option Addr) (c1 : Nat) (a2 : Option Addr) (c2 : Nat) (a3 : Option Addr) (c3 : Nat) (a4 : Option Addr) (c4 : Nat), u7 = .int .i64 wl ∧ u8 = .int .i64 un ∧ u9 = .int .i64 i ∧ i ≤ L.length ∧ Hid (PlaysK P A i wl un) ∧ Hid (FlatN (fun b => b ∈ ([bx5] : List Nat)) wr ⟨p0, a1, c1, a2, c2, a3, c3, a4, c4⟩ A) ∧ Hid (wr.heap[bx5]? = some (.cells #[.slice p0.za A.plan.zones.length p0.zc, .slice p0.fa A.plan.fates.length p0.fc, .int .i64 A.plan.ticks, .slice p0.da A.plan.drops.length p0.dc, .int .i64 A.clock, .slice a1 A.socks.length c1, .slice a2 A.dials.length c2, .slice a3 A.looks.length c3, .int .i64 A.dropped, .slice a4 A.marks.length c4] 33 (0, 0))) ∧ Hid (wr.heap[bx2]? = some (.cells #[.slice pv.za P.zones.length pv.zc, .slice pv.fa P.fates.length pv.fc, .int .i64 P.ticks, .slice pv.da P.drops.length pv.dc] 26 (0, 0))) ∧ Hid (Below w.heap.size w wr)) (fun _ _ u _ => L.length - (intOf u).toNat)
        case atStart => exact ⟨0, 0, 0, A0, p1, a11, c11, a12, c12, a13, c13, a14, c14, rfl, rfl, rfl, by omega, HI0, Hf5, Hx5, Hx2, HB⟩
        case round =>
          obtain ⟨i, wl, un, A, p0, a1, c1, a2, c2, a3, c3, a4, c4, rfl, rfl, rfl, hi, HI, Hf5, Hx5, Hx2, HB⟩ := hrel
          by_cases hlt : i < L.length
          · have hki : (i : Int) < (L.length : Int) := by omega
            have hkw : IntKind.i64.wrap ((i : Int) + 1) = (i : Int) + 1 := by rw [IntKind.wrap_i64]; omega
            have HRm := Lib.hid (HI.out.room (by omega) HFew.out HCk.out.2.2.1.2 HMm.out)
            have HPA := Lib.hid HI.out.plan
            have HSm := Lib.hid HI.out.small
            obtain ⟨⟨d, y, n, ad⟩, hx⟩ : ∃ x, L[i]? = some x := ⟨_, List.getElem?_eq_getElem hlt⟩
            have HOk := Lib.hid (show okA ad from HLo.out _ (List.mem_of_getElem? hx))
            obtain ⟨bc, oc, rfl, hbc, hatc⟩ := (HCL.out wr HB.out).2.2.2 (by omega)
            obtain ⟨k0, k1, k2, k3, k4, k5, k6, k7, k8, k9, k10, k11, k12⟩ := CK.cells hatc hx
            dsimp only at k0 k1 k2 k3 k4 k5 k6 k7 k8 k9 k10 k11 k12
            clear hatc hx hbc
            go_upto_region 9 with fail
            clear k0 k1 k2 k3 k4 k5 k6 k7 k8 k9 k10 k11 k12
            obtain ⟨bx10, hdx10⟩ : ∃ b, b = wr.heap.size := ⟨_, rfl⟩
            have hgex10 : w.heap.size ≤ bx10 := by rw [hdx10]; exact HB.out.size
            have hltx2x10 : bx2 < bx10 := by rw [hdx10]; exact lt_of_block Hx2.out
            have hltx5x10 : bx5 < bx10 := by rw [hdx10]; exact lt_of_block Hx5.out
            obtain ⟨W3, hW3⟩ : ∃ X, X = wr.alloc (.cells #[.int .i64 d, .int .i64 y, .int .i64 n, .int .i8 ad.f, .int .u16 ad.g0, .int .u16 ad.g1, .int .u16 ad.g2, .int .u16 ad.g3, .int .u16 ad.g4, .int .u16 ad.g5, .int .u16 ad.g6, .int .u16 ad.g7, .int .i64 ad.p] 45) := ⟨_, rfl⟩
            have hlx10 := laid1 wr (.cells #[.int .i64 d, .int .i64 y, .int .i64 n, .int .i8 ad.f, .int .u16 ad.g0, .int .u16 ad.g1, .int .u16 ad.g2, .int .u16 ad.g3, .int .u16 ad.g4, .int .u16 ad.g5, .int .u16 ad.g6, .int .u16 ad.g7, .int .i64 ad.p] 45)
            have hbx10 := below1 wr (.cells #[.int .i64 d, .int .i64 y, .int .i64 n, .int .i8 ad.f, .int .u16 ad.g0, .int .u16 ad.g1, .int .u16 ad.g2, .int .u16 ad.g3, .int .u16 ad.g4, .int .u16 ad.g5, .int .u16 ad.g6, .int .u16 ad.g7, .int .i64 ad.p] 45)
            rw [← hW3] at hlx10 hbx10 ⊢
            clear hW3
            replace Hf5 := Lib.hid (Hf5.out.more (M := (fun b => b ∈ ([bx5, bx10] : List Nat))) (by intro b hb; simp only [List.mem_cons, List.not_mem_nil, or_false] at hb ⊢ <;> (first | omega | (right; omega))))
            replace Hx2 := Lib.hid ((hbx10.block _ (lt_of_block Hx2.out)).trans Hx2.out)
            replace Hx5 := Lib.hid ((hbx10.block _ (lt_of_block Hx5.out)).trans Hx5.out)
            replace Hf5 := Lib.hid (Hf5.out.below hbx10)
            replace HB := Lib.hid (HB.out.trans (hbx10.mono HB.out.size))
            rw [← hdx10] at hlx10 ⊢
            replace Hx10 := Lib.hid hlx10
            clear hlx10 hbx10 hdx10
            obtain ⟨⟨x5_c0, x5_c1, x5_c2, x5_c3, x5_c4, x5_c5, x5_c6, x5_c7, x5_c8, x5_c9⟩, x5_f0, x5_f1, x5_f2, x5_f3, x5_f4, x5_f5, x5_f6, x5_f7, x5_f8, x5_f9⟩ := boxes10 Hx5.out
            go_upto_region 10 with fail
            have Hf11 := Hf5
            clear x5_c0 x5_c1 x5_c2 x5_c3 x5_c4 x5_c5 x5_c6 x5_c7 x5_c8 x5_c9 x5_f0 x5_f1 x5_f2 x5_f3 x5_f4 x5_f5 x5_f6 x5_f7 x5_f8 x5_f9
            obtain ⟨bx11, hdx11⟩ : ∃ b, b = W3.heap.size := ⟨_, rfl⟩
            have hgex11 : w.heap.size ≤ bx11 := by rw [hdx11]; exact HB.out.size
            have hltx2x11 : bx2 < bx11 := by rw [hdx11]; exact lt_of_block Hx2.out
            have hltx5x11 : bx5 < bx11 := by rw [hdx11]; exact lt_of_block Hx5.out
            have hltx10x11 : bx10 < bx11 := by rw [hdx11]; exact lt_of_block Hx10.out
            obtain ⟨W4, hW4⟩ : ∃ X, X = W3.alloc (.cells #[.slice p0.za A.plan.zones.length p0.zc, .slice p0.fa A.plan.fates.length p0.fc, .int .i64 A.plan.ticks, .slice p0.da A.plan.drops.length p0.dc, .int .i64 A.clock, .slice a1 A.socks.length c1, .slice a2 A.dials.length c2, .slice a3 A.looks.length c3, .int .i64 A.dropped, .slice a4 A.marks.length c4] 33) := ⟨_, rfl⟩
            have hlx11 := laid1 W3 (.cells #[.slice p0.za A.plan.zones.length p0.zc, .slice p0.fa A.plan.fates.length p0.fc, .int .i64 A.plan.ticks, .slice p0.da A.plan.drops.length p0.dc, .int .i64 A.clock, .slice a1 A.socks.length c1, .slice a2 A.dials.length c2, .slice a3 A.looks.length c3, .int .i64 A.dropped, .slice a4 A.marks.length c4] 33)
            have hbx11 := below1 W3 (.cells #[.slice p0.za A.plan.zones.length p0.zc, .slice p0.fa A.plan.fates.length p0.fc, .int .i64 A.plan.ticks, .slice p0.da A.plan.drops.length p0.dc, .int .i64 A.clock, .slice a1 A.socks.length c1, .slice a2 A.dials.length c2, .slice a3 A.looks.length c3, .int .i64 A.dropped, .slice a4 A.marks.length c4] 33)
            rw [← hW4] at hlx11 hbx11 ⊢
            clear hW4
            replace Hf5 := Lib.hid (Hf5.out.more (M := (fun b => b ∈ ([bx5, bx10, bx11] : List Nat))) (by intro b hb; simp only [List.mem_cons, List.not_mem_nil, or_false] at hb ⊢ <;> (first | omega | (right; omega))))
            replace Hf11 := Lib.hid (Hf11.out.more (M := (fun b => b ∈ ([bx5, bx10, bx11] : List Nat))) (by intro b hb; simp only [List.mem_cons, List.not_mem_nil, or_false] at hb ⊢ <;> (first | omega | (right; omega))))
            replace Hx2 := Lib.hid ((hbx11.block _ (lt_of_block Hx2.out)).trans Hx2.out)
            replace Hx5 := Lib.hid ((hbx11.block _ (lt_of_block Hx5.out)).trans Hx5.out)
            replace Hx10 := Lib.hid ((hbx11.block _ (lt_of_block Hx10.out)).trans Hx10.out)
            replace Hf5 := Lib.hid (Hf5.out.below hbx11)
            replace Hf11 := Lib.hid (Hf11.out.below hbx11)
            replace HB := Lib.hid (HB.out.trans (hbx11.mono HB.out.size))
            rw [← hdx11] at hlx11 ⊢
            replace Hx11 := Lib.hid hlx11
            clear hlx11 hbx11 hdx11
            obtain ⟨⟨x10_c0, x10_c1, x10_c2, x10_c3, x10_c4, x10_c5, x10_c6, x10_c7, x10_c8, x10_c9, x10_c10, x10_c11, x10_c12⟩, x10_f0, x10_f1, x10_f2, x10_f3, x10_f4, x10_f5, x10_f6, x10_f7, x10_f8, x10_f9, x10_f10, x10_f11, x10_f12⟩ := boxes13 Hx10.out
            go_upto_block 2 with fail
            clear x10_c0 x10_c1 x10_c2 x10_c3 x10_c4 x10_c5 x10_c6 x10_c7 x10_c8 x10_c9 x10_c10 x10_c11 x10_c12 x10_f0 x10_f1 x10_f2 x10_f3 x10_f4 x10_f5 x10_f6 x10_f7 x10_f8 x10_f9 x10_f10 x10_f11 x10_f12
            go_cut [7, 8, 12, 13, 14] from 45 to 131 (fun s7 s8 s12 s13 s14 wx => ∃ (wl2 un2 : Nat) (r : Int) (B : Wo) (pm : Pv) (am1 : Option Addr) (cm1 : Nat) (am2 : Option Addr) (cm2 : Nat) (am3 : Option Addr) (cm3 : Nat) (am4 : Option Addr) (cm4 : Nat), s7 = .int .i64 wl2 ∧ s8 = .int .i64 un2 ∧ s12 = .int .i64 r ∧ Hid (PlaysK P B (i + 1) wl2 un2) ∧ Hid (r ≠ 0 → B = A) ∧ Hid (FlatN (fun b => b ∈ ([bx5] : List Nat)) wx ⟨pm, am1, cm1, am2, cm2, am3, cm3, am4, cm4⟩ B) ∧ Hid (FlatN (fun b => b ∈ ([bx5] : List Nat)) wx ⟨p0, a1, c1, a2, c2, a3, c3, a4, c4⟩ A) ∧ Hid (wx.heap[bx11]? = some (.cells #[.slice pm.za B.plan.zones.length pm.zc, .slice pm.fa B.plan.fates.length pm.fc, .int .i64 B.plan.ticks, .slice pm.da B.plan.drops.length pm.dc, .int .i64 B.clock, .slice am1 B.socks.length cm1, .slice am2 B.dials.length cm2, .slice am3 B.looks.length cm3, .int .i64 B.dropped, .slice am4 B.marks.length cm4] 33 (0, 0))) ∧ Hid (wx.heap[bx5]? = some (.cells #[.slice p0.za A.plan.zones.length p0.zc, .slice p0.fa A.plan.fates.length p0.fc, .int .i64 A.plan.ticks, .slice p0.da A.plan.drops.length p0.dc, .int .i64 A.clock, .slice a1 A.socks.length c1, .slice a2 A.dials.length c2, .slice a3 A.looks.length c3, .int .i64 A.dropped, .slice a4 A.marks.length c4] 33 (0, 0))) ∧ Hid (wx.heap[bx2]? = some (.cells #[.slice pv.za P.zones.length pv.zc, .slice pv.fa P.fates.length pv.fc, .int .i64 P.ticks, .slice pv.da P.drops.length pv.dc] 26 (0, 0))) ∧ Hid (Below w.heap.size w wx))
            case first =>
              rcases (show d = 0 ∨ d = 1 ∨ d = 2 ∨ d = 3 ∨ d = 4 ∨ d = 5 ∨ (¬ d = 0 ∧ ¬ d = 1 ∧ ¬ d = 2 ∧ ¬ d = 3 ∧ ¬ d = 4 ∧ ¬ d = 5) by omega) with rfl | rfl | rfl | rfl | rfl | rfl | ⟨hd0, hd1, hd2, hd3, hd4, hd5⟩
              · obtain ⟨B, hB⟩ : ∃ X, X = tickP A := ⟨_, rfl⟩
                obtain ⟨r, hr⟩ : ∃ X, X = tickE A := ⟨_, rfl⟩
                obtain ⟨⟨x10_c0, x10_c1, x10_c2, x10_c3, x10_c4, x10_c5, x10_c6, x10_c7, x10_c8, x10_c9, x10_c10, x10_c11, x10_c12⟩, x10_f0, x10_f1, x10_f2, x10_f3, x10_f4, x10_f5, x10_f6, x10_f7, x10_f8, x10_f9, x10_f10, x10_f11, x10_f12⟩ := boxes13 Hx10.out
                obtain ⟨⟨x5_c0, x5_c1, x5_c2, x5_c3, x5_c4, x5_c5, x5_c6, x5_c7, x5_c8, x5_c9⟩, x5_f0, x5_f1, x5_f2, x5_f3, x5_f4, x5_f5, x5_f6, x5_f7, x5_f8, x5_f9⟩ := boxes10 Hx5.out
                obtain ⟨⟨x11_c0, x11_c1, x11_c2, x11_c3, x11_c4, x11_c5, x11_c6, x11_c7, x11_c8, x11_c9⟩, x11_f0, x11_f1, x11_f2, x11_f3, x11_f4, x11_f5, x11_f6, x11_f7, x11_f8, x11_f9⟩ := boxes10 Hx11.out
                have HX := Lib.hid (HTk.out (fun b => b ∈ ([bx5, bx10, bx11] : List Nat)) A ⟨p0, a1, c1, a2, c2, a3, c3, a4, c4⟩ W4 B r (by have := lt_of_block Hx5.out; have := lt_of_block Hx10.out; have := lt_of_block Hx11.out; intro b hb; simp only [List.mem_cons, List.not_mem_nil, or_false] at hb <;> omega) HRm.out Hf5.out hB hr)
                try simp only [Wv.val, Wv.cells, Ad.v] at HX
                go_wp2_with fail
                with_reducible refine HX.out.mono ?_
                rintro e wE ⟨⟨pe, ae1, ce1, ae2, ce2, ae3, ce3, ae4, ce4⟩, rfl, hfl, hb⟩
                have HBd := Lib.hid hB
                have HRd2 := Lib.hid hr
                clear hB hr
                clear Hf11
                clear x10_c0 x10_c1 x10_c2 x10_c3 x10_c4 x10_c5 x10_c6 x10_c7 x10_c8 x10_c9 x10_c10 x10_c11 x10_c12 x10_f0 x10_f1 x10_f2 x10_f3 x10_f4 x10_f5 x10_f6 x10_f7 x10_f8 x10_f9 x10_f10 x10_f11 x10_f12 x5_c0 x5_c1 x5_c2 x5_c3 x5_c4 x5_c5 x5_c6 x5_c7 x5_c8 x5_c9 x5_f0 x5_f1 x5_f2 x5_f3 x5_f4 x5_f5 x5_f6 x5_f7 x5_f8 x5_f9 x11_c0 x11_c1 x11_c2 x11_c3 x11_c4 x11_c5 x11_c6 x11_c7 x11_c8 x11_c9 x11_f0 x11_f1 x11_f2 x11_f3 x11_f4 x11_f5 x11_f6 x11_f7 x11_f8 x11_f9
                replace Hx2 := Lib.hid ((hb.block _ (lt_of_block Hx2.out)).trans Hx2.out)
                replace Hx5 := Lib.hid ((hb.block _ (lt_of_block Hx5.out)).trans Hx5.out)
                replace Hx10 := Lib.hid ((hb.block _ (lt_of_block Hx10.out)).trans Hx10.out)
                replace Hx11 := Lib.hid ((hb.block _ (lt_of_block Hx11.out)).trans Hx11.out)
                replace Hf5 := Lib.hid (Hf5.out.below hb)
                replace HB := Lib.hid (HB.out.trans (hb.mono HB.out.size))
                replace Hf11 := Lib.hid hfl
                clear hb hfl HX
                simp only [Wv.val, Wv.cells, Lt.v]
                obtain ⟨⟨x5_c0, x5_c1, x5_c2, x5_c3, x5_c4, x5_c5, x5_c6, x5_c7, x5_c8, x5_c9⟩, x5_f0, x5_f1, x5_f2, x5_f3, x5_f4, x5_f5, x5_f6, x5_f7, x5_f8, x5_f9⟩ := boxes10 Hx5.out
                obtain ⟨⟨x11_c0, x11_c1, x11_c2, x11_c3, x11_c4, x11_c5, x11_c6, x11_c7, x11_c8, x11_c9⟩, x11_f0, x11_f1, x11_f2, x11_f3, x11_f4, x11_f5, x11_f6, x11_f7, x11_f8, x11_f9⟩ := boxes10 Hx11.out
                go_upto_region 39 with fail
                clear x5_c0 x5_c1 x5_c2 x5_c3 x5_c4 x5_c5 x5_c6 x5_c7 x5_c8 x5_c9 x5_f0 x5_f1 x5_f2 x5_f3 x5_f4 x5_f5 x5_f6 x5_f7 x5_f8 x5_f9 x11_c0 x11_c1 x11_c2 x11_c3 x11_c4 x11_c5 x11_c6 x11_c7 x11_c8 x11_c9 x11_f0 x11_f1 x11_f2 x11_f3 x11_f4 x11_f5 x11_f6 x11_f7 x11_f8 x11_f9
                obtain ⟨W5, hW5⟩ : ∃ X, X = set10 wE bx11 (.slice pe.za B.plan.zones.length pe.zc) (.slice pe.fa B.plan.fates.length pe.fc) (.int .i64 B.plan.ticks) (.slice pe.da B.plan.drops.length pe.dc) (.int .i64 B.clock) (.slice ae1 B.socks.length ce1) (.slice ae2 B.dials.length ce2) (.slice ae3 B.looks.length ce3) (.int .i64 B.dropped) (.slice ae4 B.marks.length ce4) := ⟨_, rfl⟩
                have hqx11 := set10_at Hx11.out (.slice pe.za B.plan.zones.length pe.zc) (.slice pe.fa B.plan.fates.length pe.fc) (.int .i64 B.plan.ticks) (.slice pe.da B.plan.drops.length pe.dc) (.int .i64 B.clock) (.slice ae1 B.socks.length ce1) (.slice ae2 B.dials.length ce2) (.slice ae3 B.looks.length ce3) (.int .i64 B.dropped) (.slice ae4 B.marks.length ce4)
                have hb := set10_below HB.out hgex11 (.slice pe.za B.plan.zones.length pe.zc) (.slice pe.fa B.plan.fates.length pe.fc) (.int .i64 B.plan.ticks) (.slice pe.da B.plan.drops.length pe.dc) (.int .i64 B.clock) (.slice ae1 B.socks.length ce1) (.slice ae2 B.dials.length ce2) (.slice ae3 B.looks.length ce3) (.int .i64 B.dropped) (.slice ae4 B.marks.length ce4)
                have hqx2 := (set10_other wE bx11 bx2 (.slice pe.za B.plan.zones.length pe.zc) (.slice pe.fa B.plan.fates.length pe.fc) (.int .i64 B.plan.ticks) (.slice pe.da B.plan.drops.length pe.dc) (.int .i64 B.clock) (.slice ae1 B.socks.length ce1) (.slice ae2 B.dials.length ce2) (.slice ae3 B.looks.length ce3) (.int .i64 B.dropped) (.slice ae4 B.marks.length ce4) (by omega)).trans Hx2.out
                have hqx5 := (set10_other wE bx11 bx5 (.slice pe.za B.plan.zones.length pe.zc) (.slice pe.fa B.plan.fates.length pe.fc) (.int .i64 B.plan.ticks) (.slice pe.da B.plan.drops.length pe.dc) (.int .i64 B.clock) (.slice ae1 B.socks.length ce1) (.slice ae2 B.dials.length ce2) (.slice ae3 B.looks.length ce3) (.int .i64 B.dropped) (.slice ae4 B.marks.length ce4) (by omega)).trans Hx5.out
                have hqx10 := (set10_other wE bx11 bx10 (.slice pe.za B.plan.zones.length pe.zc) (.slice pe.fa B.plan.fates.length pe.fc) (.int .i64 B.plan.ticks) (.slice pe.da B.plan.drops.length pe.dc) (.int .i64 B.clock) (.slice ae1 B.socks.length ce1) (.slice ae2 B.dials.length ce2) (.slice ae3 B.looks.length ce3) (.int .i64 B.dropped) (.slice ae4 B.marks.length ce4) (by omega)).trans Hx10.out
                have hqf5 := set10_flat (b := bx11) Hf5.out (by simp) (.slice pe.za B.plan.zones.length pe.zc) (.slice pe.fa B.plan.fates.length pe.fc) (.int .i64 B.plan.ticks) (.slice pe.da B.plan.drops.length pe.dc) (.int .i64 B.clock) (.slice ae1 B.socks.length ce1) (.slice ae2 B.dials.length ce2) (.slice ae3 B.looks.length ce3) (.int .i64 B.dropped) (.slice ae4 B.marks.length ce4)
                have hqf11 := set10_flat (b := bx11) Hf11.out (by simp) (.slice pe.za B.plan.zones.length pe.zc) (.slice pe.fa B.plan.fates.length pe.fc) (.int .i64 B.plan.ticks) (.slice pe.da B.plan.drops.length pe.dc) (.int .i64 B.clock) (.slice ae1 B.socks.length ce1) (.slice ae2 B.dials.length ce2) (.slice ae3 B.looks.length ce3) (.int .i64 B.dropped) (.slice ae4 B.marks.length ce4)
                rw [← hW5] at hqx11 hb hqx2 hqx5 hqx10 hqf5 hqf11
                unfold set10 at hW5
                rw [← hW5]
                clear hW5
                replace HB := Lib.hid hb
                replace Hx2 := Lib.hid hqx2
                replace Hx5 := Lib.hid hqx5
                replace Hx10 := Lib.hid hqx10
                replace Hx11 := Lib.hid hqx11
                replace Hf5 := Lib.hid hqf5
                replace Hf11 := Lib.hid hqf11
                clear hqx11 hb hqx2 hqx5 hqx10 hqf5 hqf11
                have Hrow := Lib.hid (Hf11.out.more (M := (fun b => b ∈ ([bx5] : List Nat))) (by intro b hb; simp only [List.mem_cons, List.not_mem_nil, or_false] at hb ⊢ <;> (first | omega | (right; omega))))
                have Hro5 := Lib.hid (Hf5.out.more (M := (fun b => b ∈ ([bx5] : List Nat))) (by intro b hb; simp only [List.mem_cons, List.not_mem_nil, or_false] at hb ⊢ <;> (first | omega | (right; omega))))
                go_wp2_with fail
                go_meet
                exact ⟨wl, un, r, B, pe, ae1, ce1, ae2, ce2, ae3, ce3, ae4, ce4, by first | rfl | go_num, by first | rfl | go_num, rfl, Lib.hid (by rw [HBd.out]; exact invk_tick HI.out), Lib.hid (tick_same HBd.out HRd2.out), Hrow, Hro5, Hx11, Hx5, Hx2, HB⟩
              · obtain ⟨B, hB⟩ : ∃ X, X = dropP A := ⟨_, rfl⟩
                obtain ⟨r, hr⟩ : ∃ X, X = dropE A := ⟨_, rfl⟩
                obtain ⟨⟨x10_c0, x10_c1, x10_c2, x10_c3, x10_c4, x10_c5, x10_c6, x10_c7, x10_c8, x10_c9, x10_c10, x10_c11, x10_c12⟩, x10_f0, x10_f1, x10_f2, x10_f3, x10_f4, x10_f5, x10_f6, x10_f7, x10_f8, x10_f9, x10_f10, x10_f11, x10_f12⟩ := boxes13 Hx10.out
                obtain ⟨⟨x5_c0, x5_c1, x5_c2, x5_c3, x5_c4, x5_c5, x5_c6, x5_c7, x5_c8, x5_c9⟩, x5_f0, x5_f1, x5_f2, x5_f3, x5_f4, x5_f5, x5_f6, x5_f7, x5_f8, x5_f9⟩ := boxes10 Hx5.out
                obtain ⟨⟨x11_c0, x11_c1, x11_c2, x11_c3, x11_c4, x11_c5, x11_c6, x11_c7, x11_c8, x11_c9⟩, x11_f0, x11_f1, x11_f2, x11_f3, x11_f4, x11_f5, x11_f6, x11_f7, x11_f8, x11_f9⟩ := boxes10 Hx11.out
                have HX := Lib.hid (HDr.out (fun b => b ∈ ([bx5, bx10, bx11] : List Nat)) A ⟨p0, a1, c1, a2, c2, a3, c3, a4, c4⟩ W4 B r (by have := lt_of_block Hx5.out; have := lt_of_block Hx10.out; have := lt_of_block Hx11.out; intro b hb; simp only [List.mem_cons, List.not_mem_nil, or_false] at hb <;> omega) HRm.out Hf5.out hB hr)
                try simp only [Wv.val, Wv.cells, Ad.v] at HX
                go_wp2_with fail
                with_reducible refine HX.out.mono ?_
                rintro e wE ⟨⟨pe, ae1, ce1, ae2, ce2, ae3, ce3, ae4, ce4⟩, rfl, hfl, hb⟩
                have HBd := Lib.hid hB
                have HRd2 := Lib.hid hr
                clear hB hr
                clear Hf11
                clear x10_c0 x10_c1 x10_c2 x10_c3 x10_c4 x10_c5 x10_c6 x10_c7 x10_c8 x10_c9 x10_c10 x10_c11 x10_c12 x10_f0 x10_f1 x10_f2 x10_f3 x10_f4 x10_f5 x10_f6 x10_f7 x10_f8 x10_f9 x10_f10 x10_f11 x10_f12 x5_c0 x5_c1 x5_c2 x5_c3 x5_c4 x5_c5 x5_c6 x5_c7 x5_c8 x5_c9 x5_f0 x5_f1 x5_f2 x5_f3 x5_f4 x5_f5 x5_f6 x5_f7 x5_f8 x5_f9 x11_c0 x11_c1 x11_c2 x11_c3 x11_c4 x11_c5 x11_c6 x11_c7 x11_c8 x11_c9 x11_f0 x11_f1 x11_f2 x11_f3 x11_f4 x11_f5 x11_f6 x11_f7 x11_f8 x11_f9
                replace Hx2 := Lib.hid ((hb.block _ (lt_of_block Hx2.out)).trans Hx2.out)
                replace Hx5 := Lib.hid ((hb.block _ (lt_of_block Hx5.out)).trans Hx5.out)
                replace Hx10 := Lib.hid ((hb.block _ (lt_of_block Hx10.out)).trans Hx10.out)
                replace Hx11 := Lib.hid ((hb.block _ (lt_of_block Hx11.out)).trans Hx11.out)
                replace Hf5 := Lib.hid (Hf5.out.below hb)
                replace HB := Lib.hid (HB.out.trans (hb.mono HB.out.size))
                replace Hf11 := Lib.hid hfl
                clear hb hfl HX
                simp only [Wv.val, Wv.cells, Lt.v]
                obtain ⟨⟨x5_c0, x5_c1, x5_c2, x5_c3, x5_c4, x5_c5, x5_c6, x5_c7, x5_c8, x5_c9⟩, x5_f0, x5_f1, x5_f2, x5_f3, x5_f4, x5_f5, x5_f6, x5_f7, x5_f8, x5_f9⟩ := boxes10 Hx5.out
                obtain ⟨⟨x11_c0, x11_c1, x11_c2, x11_c3, x11_c4, x11_c5, x11_c6, x11_c7, x11_c8, x11_c9⟩, x11_f0, x11_f1, x11_f2, x11_f3, x11_f4, x11_f5, x11_f6, x11_f7, x11_f8, x11_f9⟩ := boxes10 Hx11.out
                go_upto_region 39 with fail
                clear x5_c0 x5_c1 x5_c2 x5_c3 x5_c4 x5_c5 x5_c6 x5_c7 x5_c8 x5_c9 x5_f0 x5_f1 x5_f2 x5_f3 x5_f4 x5_f5 x5_f6 x5_f7 x5_f8 x5_f9 x11_c0 x11_c1 x11_c2 x11_c3 x11_c4 x11_c5 x11_c6 x11_c7 x11_c8 x11_c9 x11_f0 x11_f1 x11_f2 x11_f3 x11_f4 x11_f5 x11_f6 x11_f7 x11_f8 x11_f9
                obtain ⟨W5, hW5⟩ : ∃ X, X = set10 wE bx11 (.slice pe.za B.plan.zones.length pe.zc) (.slice pe.fa B.plan.fates.length pe.fc) (.int .i64 B.plan.ticks) (.slice pe.da B.plan.drops.length pe.dc) (.int .i64 B.clock) (.slice ae1 B.socks.length ce1) (.slice ae2 B.dials.length ce2) (.slice ae3 B.looks.length ce3) (.int .i64 B.dropped) (.slice ae4 B.marks.length ce4) := ⟨_, rfl⟩
                have hqx11 := set10_at Hx11.out (.slice pe.za B.plan.zones.length pe.zc) (.slice pe.fa B.plan.fates.length pe.fc) (.int .i64 B.plan.ticks) (.slice pe.da B.plan.drops.length pe.dc) (.int .i64 B.clock) (.slice ae1 B.socks.length ce1) (.slice ae2 B.dials.length ce2) (.slice ae3 B.looks.length ce3) (.int .i64 B.dropped) (.slice ae4 B.marks.length ce4)
                have hb := set10_below HB.out hgex11 (.slice pe.za B.plan.zones.length pe.zc) (.slice pe.fa B.plan.fates.length pe.fc) (.int .i64 B.plan.ticks) (.slice pe.da B.plan.drops.length pe.dc) (.int .i64 B.clock) (.slice ae1 B.socks.length ce1) (.slice ae2 B.dials.length ce2) (.slice ae3 B.looks.length ce3) (.int .i64 B.dropped) (.slice ae4 B.marks.length ce4)
                have hqx2 := (set10_other wE bx11 bx2 (.slice pe.za B.plan.zones.length pe.zc) (.slice pe.fa B.plan.fates.length pe.fc) (.int .i64 B.plan.ticks) (.slice pe.da B.plan.drops.length pe.dc) (.int .i64 B.clock) (.slice ae1 B.socks.length ce1) (.slice ae2 B.dials.length ce2) (.slice ae3 B.looks.length ce3) (.int .i64 B.dropped) (.slice ae4 B.marks.length ce4) (by omega)).trans Hx2.out
                have hqx5 := (set10_other wE bx11 bx5 (.slice pe.za B.plan.zones.length pe.zc) (.slice pe.fa B.plan.fates.length pe.fc) (.int .i64 B.plan.ticks) (.slice pe.da B.plan.drops.length pe.dc) (.int .i64 B.clock) (.slice ae1 B.socks.length ce1) (.slice ae2 B.dials.length ce2) (.slice ae3 B.looks.length ce3) (.int .i64 B.dropped) (.slice ae4 B.marks.length ce4) (by omega)).trans Hx5.out
                have hqx10 := (set10_other wE bx11 bx10 (.slice pe.za B.plan.zones.length pe.zc) (.slice pe.fa B.plan.fates.length pe.fc) (.int .i64 B.plan.ticks) (.slice pe.da B.plan.drops.length pe.dc) (.int .i64 B.clock) (.slice ae1 B.socks.length ce1) (.slice ae2 B.dials.length ce2) (.slice ae3 B.looks.length ce3) (.int .i64 B.dropped) (.slice ae4 B.marks.length ce4) (by omega)).trans Hx10.out
                have hqf5 := set10_flat (b := bx11) Hf5.out (by simp) (.slice pe.za B.plan.zones.length pe.zc) (.slice pe.fa B.plan.fates.length pe.fc) (.int .i64 B.plan.ticks) (.slice pe.da B.plan.drops.length pe.dc) (.int .i64 B.clock) (.slice ae1 B.socks.length ce1) (.slice ae2 B.dials.length ce2) (.slice ae3 B.looks.length ce3) (.int .i64 B.dropped) (.slice ae4 B.marks.length ce4)
                have hqf11 := set10_flat (b := bx11) Hf11.out (by simp) (.slice pe.za B.plan.zones.length pe.zc) (.slice pe.fa B.plan.fates.length pe.fc) (.int .i64 B.plan.ticks) (.slice pe.da B.plan.drops.length pe.dc) (.int .i64 B.clock) (.slice ae1 B.socks.length ce1) (.slice ae2 B.dials.length ce2) (.slice ae3 B.looks.length ce3) (.int .i64 B.dropped) (.slice ae4 B.marks.length ce4)
                rw [← hW5] at hqx11 hb hqx2 hqx5 hqx10 hqf5 hqf11
                unfold set10 at hW5
                rw [← hW5]
                clear hW5
                replace HB := Lib.hid hb
                replace Hx2 := Lib.hid hqx2
                replace Hx5 := Lib.hid hqx5
                replace Hx10 := Lib.hid hqx10
                replace Hx11 := Lib.hid hqx11
                replace Hf5 := Lib.hid hqf5
                replace Hf11 := Lib.hid hqf11
                clear hqx11 hb hqx2 hqx5 hqx10 hqf5 hqf11
                have Hrow := Lib.hid (Hf11.out.more (M := (fun b => b ∈ ([bx5] : List Nat))) (by intro b hb; simp only [List.mem_cons, List.not_mem_nil, or_false] at hb ⊢ <;> (first | omega | (right; omega))))
                have Hro5 := Lib.hid (Hf5.out.more (M := (fun b => b ∈ ([bx5] : List Nat))) (by intro b hb; simp only [List.mem_cons, List.not_mem_nil, or_false] at hb ⊢ <;> (first | omega | (right; omega))))
                go_wp2_with fail
                go_meet
                exact ⟨wl, un, r, B, pe, ae1, ce1, ae2, ce2, ae3, ce3, ae4, ce4, by first | rfl | go_num, by first | rfl | go_num, rfl, Lib.hid (by rw [HBd.out]; exact invk_drop HI.out), Lib.hid (drop_same HBd.out HRd2.out), Hrow, Hro5, Hx11, Hx5, Hx2, HB⟩
              · obtain ⟨B, hB⟩ : ∃ X, X = dialP A y ad := ⟨_, rfl⟩
                obtain ⟨r, hr⟩ : ∃ X, X = dialE A y ad := ⟨_, rfl⟩
                obtain ⟨⟨x10_c0, x10_c1, x10_c2, x10_c3, x10_c4, x10_c5, x10_c6, x10_c7, x10_c8, x10_c9, x10_c10, x10_c11, x10_c12⟩, x10_f0, x10_f1, x10_f2, x10_f3, x10_f4, x10_f5, x10_f6, x10_f7, x10_f8, x10_f9, x10_f10, x10_f11, x10_f12⟩ := boxes13 Hx10.out
                obtain ⟨⟨x5_c0, x5_c1, x5_c2, x5_c3, x5_c4, x5_c5, x5_c6, x5_c7, x5_c8, x5_c9⟩, x5_f0, x5_f1, x5_f2, x5_f3, x5_f4, x5_f5, x5_f6, x5_f7, x5_f8, x5_f9⟩ := boxes10 Hx5.out
                obtain ⟨⟨x11_c0, x11_c1, x11_c2, x11_c3, x11_c4, x11_c5, x11_c6, x11_c7, x11_c8, x11_c9⟩, x11_f0, x11_f1, x11_f2, x11_f3, x11_f4, x11_f5, x11_f6, x11_f7, x11_f8, x11_f9⟩ := boxes10 Hx11.out
                have HX := Lib.hid (HDl.out (fun b => b ∈ ([bx5, bx10, bx11] : List Nat)) A ⟨p0, a1, c1, a2, c2, a3, c3, a4, c4⟩ y ad W4 B r (by have := lt_of_block Hx5.out; have := lt_of_block Hx10.out; have := lt_of_block Hx11.out; intro b hb; simp only [List.mem_cons, List.not_mem_nil, or_false] at hb <;> omega) HRm.out Hf5.out hB hr)
                try simp only [Wv.val, Wv.cells, Ad.v] at HX
                go_wp2_with fail
                with_reducible refine HX.out.mono ?_
                rintro e wE ⟨⟨pe, ae1, ce1, ae2, ce2, ae3, ce3, ae4, ce4⟩, rfl, hfl, hb⟩
                have HBd := Lib.hid hB
                have HRd2 := Lib.hid hr
                clear hB hr
                clear Hf11
                clear x10_c0 x10_c1 x10_c2 x10_c3 x10_c4 x10_c5 x10_c6 x10_c7 x10_c8 x10_c9 x10_c10 x10_c11 x10_c12 x10_f0 x10_f1 x10_f2 x10_f3 x10_f4 x10_f5 x10_f6 x10_f7 x10_f8 x10_f9 x10_f10 x10_f11 x10_f12 x5_c0 x5_c1 x5_c2 x5_c3 x5_c4 x5_c5 x5_c6 x5_c7 x5_c8 x5_c9 x5_f0 x5_f1 x5_f2 x5_f3 x5_f4 x5_f5 x5_f6 x5_f7 x5_f8 x5_f9 x11_c0 x11_c1 x11_c2 x11_c3 x11_c4 x11_c5 x11_c6 x11_c7 x11_c8 x11_c9 x11_f0 x11_f1 x11_f2 x11_f3 x11_f4 x11_f5 x11_f6 x11_f7 x11_f8 x11_f9
                replace Hx2 := Lib.hid ((hb.block _ (lt_of_block Hx2.out)).trans Hx2.out)
                replace Hx5 := Lib.hid ((hb.block _ (lt_of_block Hx5.out)).trans Hx5.out)
                replace Hx10 := Lib.hid ((hb.block _ (lt_of_block Hx10.out)).trans Hx10.out)
                replace Hx11 := Lib.hid ((hb.block _ (lt_of_block Hx11.out)).trans Hx11.out)
                replace Hf5 := Lib.hid (Hf5.out.below hb)
                replace HB := Lib.hid (HB.out.trans (hb.mono HB.out.size))
                replace Hf11 := Lib.hid hfl
                clear hb hfl HX
                simp only [Wv.val, Wv.cells, Lt.v]
                obtain ⟨⟨x5_c0, x5_c1, x5_c2, x5_c3, x5_c4, x5_c5, x5_c6, x5_c7, x5_c8, x5_c9⟩, x5_f0, x5_f1, x5_f2, x5_f3, x5_f4, x5_f5, x5_f6, x5_f7, x5_f8, x5_f9⟩ := boxes10 Hx5.out
                obtain ⟨⟨x11_c0, x11_c1, x11_c2, x11_c3, x11_c4, x11_c5, x11_c6, x11_c7, x11_c8, x11_c9⟩, x11_f0, x11_f1, x11_f2, x11_f3, x11_f4, x11_f5, x11_f6, x11_f7, x11_f8, x11_f9⟩ := boxes10 Hx11.out
                go_upto_region 17 with fail
                clear x5_c0 x5_c1 x5_c2 x5_c3 x5_c4 x5_c5 x5_c6 x5_c7 x5_c8 x5_c9 x5_f0 x5_f1 x5_f2 x5_f3 x5_f4 x5_f5 x5_f6 x5_f7 x5_f8 x5_f9 x11_c0 x11_c1 x11_c2 x11_c3 x11_c4 x11_c5 x11_c6 x11_c7 x11_c8 x11_c9 x11_f0 x11_f1 x11_f2 x11_f3 x11_f4 x11_f5 x11_f6 x11_f7 x11_f8 x11_f9
                obtain ⟨W5, hW5⟩ : ∃ X, X = set10 wE bx11 (.slice pe.za B.plan.zones.length pe.zc) (.slice pe.fa B.plan.fates.length pe.fc) (.int .i64 B.plan.ticks) (.slice pe.da B.plan.drops.length pe.dc) (.int .i64 B.clock) (.slice ae1 B.socks.length ce1) (.slice ae2 B.dials.length ce2) (.slice ae3 B.looks.length ce3) (.int .i64 B.dropped) (.slice ae4 B.marks.length ce4) := ⟨_, rfl⟩
                have hqx11 := set10_at Hx11.out (.slice pe.za B.plan.zones.length pe.zc) (.slice pe.fa B.plan.fates.length pe.fc) (.int .i64 B.plan.ticks) (.slice pe.da B.plan.drops.length pe.dc) (.int .i64 B.clock) (.slice ae1 B.socks.length ce1) (.slice ae2 B.dials.length ce2) (.slice ae3 B.looks.length ce3) (.int .i64 B.dropped) (.slice ae4 B.marks.length ce4)
                have hb := set10_below HB.out hgex11 (.slice pe.za B.plan.zones.length pe.zc) (.slice pe.fa B.plan.fates.length pe.fc) (.int .i64 B.plan.ticks) (.slice pe.da B.plan.drops.length pe.dc) (.int .i64 B.clock) (.slice ae1 B.socks.length ce1) (.slice ae2 B.dials.length ce2) (.slice ae3 B.looks.length ce3) (.int .i64 B.dropped) (.slice ae4 B.marks.length ce4)
                have hqx2 := (set10_other wE bx11 bx2 (.slice pe.za B.plan.zones.length pe.zc) (.slice pe.fa B.plan.fates.length pe.fc) (.int .i64 B.plan.ticks) (.slice pe.da B.plan.drops.length pe.dc) (.int .i64 B.clock) (.slice ae1 B.socks.length ce1) (.slice ae2 B.dials.length ce2) (.slice ae3 B.looks.length ce3) (.int .i64 B.dropped) (.slice ae4 B.marks.length ce4) (by omega)).trans Hx2.out
                have hqx5 := (set10_other wE bx11 bx5 (.slice pe.za B.plan.zones.length pe.zc) (.slice pe.fa B.plan.fates.length pe.fc) (.int .i64 B.plan.ticks) (.slice pe.da B.plan.drops.length pe.dc) (.int .i64 B.clock) (.slice ae1 B.socks.length ce1) (.slice ae2 B.dials.length ce2) (.slice ae3 B.looks.length ce3) (.int .i64 B.dropped) (.slice ae4 B.marks.length ce4) (by omega)).trans Hx5.out
                have hqx10 := (set10_other wE bx11 bx10 (.slice pe.za B.plan.zones.length pe.zc) (.slice pe.fa B.plan.fates.length pe.fc) (.int .i64 B.plan.ticks) (.slice pe.da B.plan.drops.length pe.dc) (.int .i64 B.clock) (.slice ae1 B.socks.length ce1) (.slice ae2 B.dials.length ce2) (.slice ae3 B.looks.length ce3) (.int .i64 B.dropped) (.slice ae4 B.marks.length ce4) (by omega)).trans Hx10.out
                have hqf5 := set10_flat (b := bx11) Hf5.out (by simp) (.slice pe.za B.plan.zones.length pe.zc) (.slice pe.fa B.plan.fates.length pe.fc) (.int .i64 B.plan.ticks) (.slice pe.da B.plan.drops.length pe.dc) (.int .i64 B.clock) (.slice ae1 B.socks.length ce1) (.slice ae2 B.dials.length ce2) (.slice ae3 B.looks.length ce3) (.int .i64 B.dropped) (.slice ae4 B.marks.length ce4)
                have hqf11 := set10_flat (b := bx11) Hf11.out (by simp) (.slice pe.za B.plan.zones.length pe.zc) (.slice pe.fa B.plan.fates.length pe.fc) (.int .i64 B.plan.ticks) (.slice pe.da B.plan.drops.length pe.dc) (.int .i64 B.clock) (.slice ae1 B.socks.length ce1) (.slice ae2 B.dials.length ce2) (.slice ae3 B.looks.length ce3) (.int .i64 B.dropped) (.slice ae4 B.marks.length ce4)
                rw [← hW5] at hqx11 hb hqx2 hqx5 hqx10 hqf5 hqf11
                unfold set10 at hW5
                rw [← hW5]
                clear hW5
                replace HB := Lib.hid hb
                replace Hx2 := Lib.hid hqx2
                replace Hx5 := Lib.hid hqx5
                replace Hx10 := Lib.hid hqx10
                replace Hx11 := Lib.hid hqx11
                replace Hf5 := Lib.hid hqf5
                replace Hf11 := Lib.hid hqf11
                clear hqx11 hb hqx2 hqx5 hqx10 hqf5 hqf11
                by_cases hr0 : r = 0
                · have hrq := HRd2.out
                  subst hr0
                  have INV2 := Lib.hid (show PlaysK P B (i + 1) wl (un + 1) from by rw [HBd.out]; exact (by have h := invk_dial HI.out y ad HOk.out; rw [if_pos hrq.symm] at h; exact h))
                  clear hrq
                  have huw : IntKind.i64.wrap ((un : Int) + 1) = (un : Int) + 1 := by have := HSm.out; rw [IntKind.wrap_i64]; omega
                  have Hrow := Lib.hid (Hf11.out.more (M := (fun b => b ∈ ([bx5] : List Nat))) (by intro b hb; simp only [List.mem_cons, List.not_mem_nil, or_false] at hb ⊢ <;> (first | omega | (right; omega))))
                  have Hro5 := Lib.hid (Hf5.out.more (M := (fun b => b ∈ ([bx5] : List Nat))) (by intro b hb; simp only [List.mem_cons, List.not_mem_nil, or_false] at hb ⊢ <;> (first | omega | (right; omega))))
                  go_wp2_with fail
                  go_meet
                  exact ⟨wl, un + 1, 0, B, pe, ae1, ce1, ae2, ce2, ae3, ce3, ae4, ce4, by first | rfl | go_num, by first | rfl | go_num, rfl, Lib.hid INV2.out, Lib.hid (fun h => absurd rfl h), Hrow, Hro5, Hx11, Hx5, Hx2, HB⟩
                · have hrc : (r == 0) = false := by simp [hr0]
                  have INV2 := Lib.hid (show PlaysK P B (i + 1) wl un from by have h := invk_dial HI.out y ad HOk.out; rw [if_neg (by rw [← HRd2.out]; exact hr0)] at h; rw [HBd.out]; exact h)
                  have Hrow := Lib.hid (Hf11.out.more (M := (fun b => b ∈ ([bx5] : List Nat))) (by intro b hb; simp only [List.mem_cons, List.not_mem_nil, or_false] at hb ⊢ <;> (first | omega | (right; omega))))
                  have Hro5 := Lib.hid (Hf5.out.more (M := (fun b => b ∈ ([bx5] : List Nat))) (by intro b hb; simp only [List.mem_cons, List.not_mem_nil, or_false] at hb ⊢ <;> (first | omega | (right; omega))))
                  go_wp2_with fail
                  go_meet
                  exact ⟨wl, un, r, B, pe, ae1, ce1, ae2, ce2, ae3, ce3, ae4, ce4, by first | rfl | go_num, by first | rfl | go_num, rfl, Lib.hid INV2.out, Lib.hid (dial_same HBd.out HRd2.out), Hrow, Hro5, Hx11, Hx5, Hx2, HB⟩
              · obtain ⟨B, hB⟩ : ∃ X, X = cutP A y := ⟨_, rfl⟩
                obtain ⟨⟨x10_c0, x10_c1, x10_c2, x10_c3, x10_c4, x10_c5, x10_c6, x10_c7, x10_c8, x10_c9, x10_c10, x10_c11, x10_c12⟩, x10_f0, x10_f1, x10_f2, x10_f3, x10_f4, x10_f5, x10_f6, x10_f7, x10_f8, x10_f9, x10_f10, x10_f11, x10_f12⟩ := boxes13 Hx10.out
                obtain ⟨⟨x5_c0, x5_c1, x5_c2, x5_c3, x5_c4, x5_c5, x5_c6, x5_c7, x5_c8, x5_c9⟩, x5_f0, x5_f1, x5_f2, x5_f3, x5_f4, x5_f5, x5_f6, x5_f7, x5_f8, x5_f9⟩ := boxes10 Hx5.out
                obtain ⟨⟨x11_c0, x11_c1, x11_c2, x11_c3, x11_c4, x11_c5, x11_c6, x11_c7, x11_c8, x11_c9⟩, x11_f0, x11_f1, x11_f2, x11_f3, x11_f4, x11_f5, x11_f6, x11_f7, x11_f8, x11_f9⟩ := boxes10 Hx11.out
                have HX := Lib.hid (HCt.out (fun b => b ∈ ([bx5, bx10, bx11] : List Nat)) A ⟨p0, a1, c1, a2, c2, a3, c3, a4, c4⟩ y W4 B (by have := lt_of_block Hx5.out; have := lt_of_block Hx10.out; have := lt_of_block Hx11.out; intro b hb; simp only [List.mem_cons, List.not_mem_nil, or_false] at hb <;> omega) HRm.out Hf5.out hB)
                try simp only [Wv.val, Wv.cells, Ad.v] at HX
                go_wp2_with fail
                with_reducible refine HX.out.mono ?_
                rintro e wE ⟨⟨pe, ae1, ce1, ae2, ce2, ae3, ce3, ae4, ce4⟩, rfl, hfl, hb⟩
                have HBd := Lib.hid hB
                clear hB
                clear Hf11
                clear x10_c0 x10_c1 x10_c2 x10_c3 x10_c4 x10_c5 x10_c6 x10_c7 x10_c8 x10_c9 x10_c10 x10_c11 x10_c12 x10_f0 x10_f1 x10_f2 x10_f3 x10_f4 x10_f5 x10_f6 x10_f7 x10_f8 x10_f9 x10_f10 x10_f11 x10_f12 x5_c0 x5_c1 x5_c2 x5_c3 x5_c4 x5_c5 x5_c6 x5_c7 x5_c8 x5_c9 x5_f0 x5_f1 x5_f2 x5_f3 x5_f4 x5_f5 x5_f6 x5_f7 x5_f8 x5_f9 x11_c0 x11_c1 x11_c2 x11_c3 x11_c4 x11_c5 x11_c6 x11_c7 x11_c8 x11_c9 x11_f0 x11_f1 x11_f2 x11_f3 x11_f4 x11_f5 x11_f6 x11_f7 x11_f8 x11_f9
                replace Hx2 := Lib.hid ((hb.block _ (lt_of_block Hx2.out)).trans Hx2.out)
                replace Hx5 := Lib.hid ((hb.block _ (lt_of_block Hx5.out)).trans Hx5.out)
                replace Hx10 := Lib.hid ((hb.block _ (lt_of_block Hx10.out)).trans Hx10.out)
                replace Hx11 := Lib.hid ((hb.block _ (lt_of_block Hx11.out)).trans Hx11.out)
                replace Hf5 := Lib.hid (Hf5.out.below hb)
                replace HB := Lib.hid (HB.out.trans (hb.mono HB.out.size))
                replace Hf11 := Lib.hid hfl
                clear hb hfl HX
                simp only [Wv.val, Wv.cells, Lt.v]
                obtain ⟨⟨x5_c0, x5_c1, x5_c2, x5_c3, x5_c4, x5_c5, x5_c6, x5_c7, x5_c8, x5_c9⟩, x5_f0, x5_f1, x5_f2, x5_f3, x5_f4, x5_f5, x5_f6, x5_f7, x5_f8, x5_f9⟩ := boxes10 Hx5.out
                obtain ⟨⟨x11_c0, x11_c1, x11_c2, x11_c3, x11_c4, x11_c5, x11_c6, x11_c7, x11_c8, x11_c9⟩, x11_f0, x11_f1, x11_f2, x11_f3, x11_f4, x11_f5, x11_f6, x11_f7, x11_f8, x11_f9⟩ := boxes10 Hx11.out
                go_upto_region 21 with fail
                clear x5_c0 x5_c1 x5_c2 x5_c3 x5_c4 x5_c5 x5_c6 x5_c7 x5_c8 x5_c9 x5_f0 x5_f1 x5_f2 x5_f3 x5_f4 x5_f5 x5_f6 x5_f7 x5_f8 x5_f9 x11_c0 x11_c1 x11_c2 x11_c3 x11_c4 x11_c5 x11_c6 x11_c7 x11_c8 x11_c9 x11_f0 x11_f1 x11_f2 x11_f3 x11_f4 x11_f5 x11_f6 x11_f7 x11_f8 x11_f9
                obtain ⟨W5, hW5⟩ : ∃ X, X = set10 wE bx11 (.slice pe.za B.plan.zones.length pe.zc) (.slice pe.fa B.plan.fates.length pe.fc) (.int .i64 B.plan.ticks) (.slice pe.da B.plan.drops.length pe.dc) (.int .i64 B.clock) (.slice ae1 B.socks.length ce1) (.slice ae2 B.dials.length ce2) (.slice ae3 B.looks.length ce3) (.int .i64 B.dropped) (.slice ae4 B.marks.length ce4) := ⟨_, rfl⟩
                have hqx11 := set10_at Hx11.out (.slice pe.za B.plan.zones.length pe.zc) (.slice pe.fa B.plan.fates.length pe.fc) (.int .i64 B.plan.ticks) (.slice pe.da B.plan.drops.length pe.dc) (.int .i64 B.clock) (.slice ae1 B.socks.length ce1) (.slice ae2 B.dials.length ce2) (.slice ae3 B.looks.length ce3) (.int .i64 B.dropped) (.slice ae4 B.marks.length ce4)
                have hb := set10_below HB.out hgex11 (.slice pe.za B.plan.zones.length pe.zc) (.slice pe.fa B.plan.fates.length pe.fc) (.int .i64 B.plan.ticks) (.slice pe.da B.plan.drops.length pe.dc) (.int .i64 B.clock) (.slice ae1 B.socks.length ce1) (.slice ae2 B.dials.length ce2) (.slice ae3 B.looks.length ce3) (.int .i64 B.dropped) (.slice ae4 B.marks.length ce4)
                have hqx2 := (set10_other wE bx11 bx2 (.slice pe.za B.plan.zones.length pe.zc) (.slice pe.fa B.plan.fates.length pe.fc) (.int .i64 B.plan.ticks) (.slice pe.da B.plan.drops.length pe.dc) (.int .i64 B.clock) (.slice ae1 B.socks.length ce1) (.slice ae2 B.dials.length ce2) (.slice ae3 B.looks.length ce3) (.int .i64 B.dropped) (.slice ae4 B.marks.length ce4) (by omega)).trans Hx2.out
                have hqx5 := (set10_other wE bx11 bx5 (.slice pe.za B.plan.zones.length pe.zc) (.slice pe.fa B.plan.fates.length pe.fc) (.int .i64 B.plan.ticks) (.slice pe.da B.plan.drops.length pe.dc) (.int .i64 B.clock) (.slice ae1 B.socks.length ce1) (.slice ae2 B.dials.length ce2) (.slice ae3 B.looks.length ce3) (.int .i64 B.dropped) (.slice ae4 B.marks.length ce4) (by omega)).trans Hx5.out
                have hqx10 := (set10_other wE bx11 bx10 (.slice pe.za B.plan.zones.length pe.zc) (.slice pe.fa B.plan.fates.length pe.fc) (.int .i64 B.plan.ticks) (.slice pe.da B.plan.drops.length pe.dc) (.int .i64 B.clock) (.slice ae1 B.socks.length ce1) (.slice ae2 B.dials.length ce2) (.slice ae3 B.looks.length ce3) (.int .i64 B.dropped) (.slice ae4 B.marks.length ce4) (by omega)).trans Hx10.out
                have hqf5 := set10_flat (b := bx11) Hf5.out (by simp) (.slice pe.za B.plan.zones.length pe.zc) (.slice pe.fa B.plan.fates.length pe.fc) (.int .i64 B.plan.ticks) (.slice pe.da B.plan.drops.length pe.dc) (.int .i64 B.clock) (.slice ae1 B.socks.length ce1) (.slice ae2 B.dials.length ce2) (.slice ae3 B.looks.length ce3) (.int .i64 B.dropped) (.slice ae4 B.marks.length ce4)
                have hqf11 := set10_flat (b := bx11) Hf11.out (by simp) (.slice pe.za B.plan.zones.length pe.zc) (.slice pe.fa B.plan.fates.length pe.fc) (.int .i64 B.plan.ticks) (.slice pe.da B.plan.drops.length pe.dc) (.int .i64 B.clock) (.slice ae1 B.socks.length ce1) (.slice ae2 B.dials.length ce2) (.slice ae3 B.looks.length ce3) (.int .i64 B.dropped) (.slice ae4 B.marks.length ce4)
                rw [← hW5] at hqx11 hb hqx2 hqx5 hqx10 hqf5 hqf11
                unfold set10 at hW5
                rw [← hW5]
                clear hW5
                replace HB := Lib.hid hb
                replace Hx2 := Lib.hid hqx2
                replace Hx5 := Lib.hid hqx5
                replace Hx10 := Lib.hid hqx10
                replace Hx11 := Lib.hid hqx11
                replace Hf5 := Lib.hid hqf5
                replace Hf11 := Lib.hid hqf11
                clear hqx11 hb hqx2 hqx5 hqx10 hqf5 hqf11
                have INV2 := Lib.hid (show PlaysK P B (i + 1) wl un from by rw [HBd.out]; exact invk_cut HI.out y)
                have HPB := Lib.hid INV2.out.plan
                have HSB := Lib.hid (show ∀ W : World, Below W5.heap.size W5 W → ((W.cell? ⟨bx5, 0, none⟩ = some (.slice p0.za A.plan.zones.length p0.zc) ∧ W.cell? ⟨bx5, 1, none⟩ = some (.slice p0.fa A.plan.fates.length p0.fc) ∧ W.cell? ⟨bx5, 2, none⟩ = some (.int .i64 A.plan.ticks) ∧ W.cell? ⟨bx5, 3, none⟩ = some (.slice p0.da A.plan.drops.length p0.dc) ∧ W.cell? ⟨bx5, 4, none⟩ = some (.int .i64 A.clock) ∧ W.cell? ⟨bx5, 5, none⟩ = some (.slice a1 A.socks.length c1) ∧ W.cell? ⟨bx5, 6, none⟩ = some (.slice a2 A.dials.length c2) ∧ W.cell? ⟨bx5, 7, none⟩ = some (.slice a3 A.looks.length c3) ∧ W.cell? ⟨bx5, 8, none⟩ = some (.int .i64 A.dropped) ∧ W.cell? ⟨bx5, 9, none⟩ = some (.slice a4 A.marks.length c4)) ∧ (W.cell? ⟨bx11, 0, none⟩ = some (.slice pe.za B.plan.zones.length pe.zc) ∧ W.cell? ⟨bx11, 1, none⟩ = some (.slice pe.fa B.plan.fates.length pe.fc) ∧ W.cell? ⟨bx11, 2, none⟩ = some (.int .i64 B.plan.ticks) ∧ W.cell? ⟨bx11, 3, none⟩ = some (.slice pe.da B.plan.drops.length pe.dc) ∧ W.cell? ⟨bx11, 4, none⟩ = some (.int .i64 B.clock) ∧ W.cell? ⟨bx11, 5, none⟩ = some (.slice ae1 B.socks.length ce1) ∧ W.cell? ⟨bx11, 6, none⟩ = some (.slice ae2 B.dials.length ce2) ∧ W.cell? ⟨bx11, 7, none⟩ = some (.slice ae3 B.looks.length ce3) ∧ W.cell? ⟨bx11, 8, none⟩ = some (.int .i64 B.dropped) ∧ W.cell? ⟨bx11, 9, none⟩ = some (.slice ae4 B.marks.length ce4))) ∧ Below W5.heap.size W5 W from fun W h => ⟨⟨(boxes10 ((h.block _ (lt_of_block Hx5.out)).trans Hx5.out)).1, (boxes10 ((h.block _ (lt_of_block Hx11.out)).trans Hx11.out)).1⟩, h⟩)
                have HU1 := Lib.hid (fun W (h : Below W5.heap.size W5 W) => HUn.out A ⟨p0, a1, c1, a2, c2, a3, c3, a4, c4⟩ W (un : Int) HRm.out HI.out.oks (Hf5.out.below h).world (by rw [under_nil, HI.out.under_]))
                have HU2 := Lib.hid (fun W (h : Below W5.heap.size W5 W) => HUn.out B ⟨pe, ae1, ce1, ae2, ce2, ae3, ce3, ae4, ce4⟩ W (un : Int) (INV2.out.room (by omega) HFew.out HCk.out.2.2.1.2 HMm.out) INV2.out.oks (Hf11.out.below h).world (by rw [under_nil, INV2.out.under_]))
                simp only [Wv.val, Wv.cells] at HU1 HU2
                go_region_held3 (fun W => ((W.cell? ⟨bx5, 0, none⟩ = some (.slice p0.za A.plan.zones.length p0.zc) ∧ W.cell? ⟨bx5, 1, none⟩ = some (.slice p0.fa A.plan.fates.length p0.fc) ∧ W.cell? ⟨bx5, 2, none⟩ = some (.int .i64 A.plan.ticks) ∧ W.cell? ⟨bx5, 3, none⟩ = some (.slice p0.da A.plan.drops.length p0.dc) ∧ W.cell? ⟨bx5, 4, none⟩ = some (.int .i64 A.clock) ∧ W.cell? ⟨bx5, 5, none⟩ = some (.slice a1 A.socks.length c1) ∧ W.cell? ⟨bx5, 6, none⟩ = some (.slice a2 A.dials.length c2) ∧ W.cell? ⟨bx5, 7, none⟩ = some (.slice a3 A.looks.length c3) ∧ W.cell? ⟨bx5, 8, none⟩ = some (.int .i64 A.dropped) ∧ W.cell? ⟨bx5, 9, none⟩ = some (.slice a4 A.marks.length c4)) ∧ (W.cell? ⟨bx11, 0, none⟩ = some (.slice pe.za B.plan.zones.length pe.zc) ∧ W.cell? ⟨bx11, 1, none⟩ = some (.slice pe.fa B.plan.fates.length pe.fc) ∧ W.cell? ⟨bx11, 2, none⟩ = some (.int .i64 B.plan.ticks) ∧ W.cell? ⟨bx11, 3, none⟩ = some (.slice pe.da B.plan.drops.length pe.dc) ∧ W.cell? ⟨bx11, 4, none⟩ = some (.int .i64 B.clock) ∧ W.cell? ⟨bx11, 5, none⟩ = some (.slice ae1 B.socks.length ce1) ∧ W.cell? ⟨bx11, 6, none⟩ = some (.slice ae2 B.dials.length ce2) ∧ W.cell? ⟨bx11, 7, none⟩ = some (.slice ae3 B.looks.length ce3) ∧ W.cell? ⟨bx11, 8, none⟩ = some (.int .i64 B.dropped) ∧ W.cell? ⟨bx11, 9, none⟩ = some (.slice ae4 B.marks.length ce4))) ∧ Below W5.heap.size W5 W)
                  (first | assumption | exact HSB.out _ (Below.refl _ _) | exact HSB.out _ (kept_call (by assumption) hbC) | exact HSB.out _ (Below.refl _ _).drew)
                  (first
                    | (go_at_call 12; (with_reducible refine (HU1.out _ (kept_self (by assumption))).mono ?_); rintro e wC ⟨rfl, hbC⟩)
                    | (go_at_call 12; (with_reducible refine (HU2.out _ (kept_self (by assumption))).mono ?_); rintro e wC ⟨rfl, hbC⟩))
                all_goals
                  have hb : Below W5.heap.size W5 wC := by first | exact kept_self (by assumption) | exact kept_call (by assumption) hbC | exact kept_call (by assumption) (Below.refl _ wC)
                  clear HSB HU1 HU2
                  replace Hx2 := Lib.hid ((hb.block _ (lt_of_block Hx2.out)).trans Hx2.out)
                  replace Hx5 := Lib.hid ((hb.block _ (lt_of_block Hx5.out)).trans Hx5.out)
                  replace Hx10 := Lib.hid ((hb.block _ (lt_of_block Hx10.out)).trans Hx10.out)
                  replace Hx11 := Lib.hid ((hb.block _ (lt_of_block Hx11.out)).trans Hx11.out)
                  replace Hf5 := Lib.hid (Hf5.out.below hb)
                  replace Hf11 := Lib.hid (Hf11.out.below hb)
                  replace HB := Lib.hid (HB.out.trans (hb.mono HB.out.size))
                  clear hb
                  have Hrow := Lib.hid (Hf11.out.more (M := (fun b => b ∈ ([bx5] : List Nat))) (by intro b hb; simp only [List.mem_cons, List.not_mem_nil, or_false] at hb ⊢ <;> (first | omega | (right; omega))))
                  have Hro5 := Lib.hid (Hf5.out.more (M := (fun b => b ∈ ([bx5] : List Nat))) (by intro b hb; simp only [List.mem_cons, List.not_mem_nil, or_false] at hb ⊢ <;> (first | omega | (right; omega))))
                  go_wp2_with fail
                  go_meet
                  exact ⟨wl, un, 0, B, pe, ae1, ce1, ae2, ce2, ae3, ce3, ae4, ce4, by first | rfl | go_num, by first | rfl | go_num, rfl, Lib.hid INV2.out, Lib.hid (fun h => absurd rfl h), Hrow, Hro5, Hx11, Hx5, Hx2, HB⟩
              · cases hrd : readyP A y with
                | false =>
                    obtain ⟨⟨x10_c0, x10_c1, x10_c2, x10_c3, x10_c4, x10_c5, x10_c6, x10_c7, x10_c8, x10_c9, x10_c10, x10_c11, x10_c12⟩, x10_f0, x10_f1, x10_f2, x10_f3, x10_f4, x10_f5, x10_f6, x10_f7, x10_f8, x10_f9, x10_f10, x10_f11, x10_f12⟩ := boxes13 Hx10.out
                    obtain ⟨⟨x5_c0, x5_c1, x5_c2, x5_c3, x5_c4, x5_c5, x5_c6, x5_c7, x5_c8, x5_c9⟩, x5_f0, x5_f1, x5_f2, x5_f3, x5_f4, x5_f5, x5_f6, x5_f7, x5_f8, x5_f9⟩ := boxes10 Hx5.out
                    have HX := Lib.hid (HRd.out A ⟨p0, a1, c1, a2, c2, a3, c3, a4, c4⟩ y W4 false HRm.out Hf5.out.world hrd.symm)
                    try simp only [Wv.val, Wv.cells, Ad.v] at HX
                    have HRDY := Lib.hid hrd
                    clear hrd
                    go_wp2_with fail
                    with_reducible refine HX.out.mono ?_
                    rintro e wD ⟨rfl, hb⟩
                    clear x10_c0 x10_c1 x10_c2 x10_c3 x10_c4 x10_c5 x10_c6 x10_c7 x10_c8 x10_c9 x10_c10 x10_c11 x10_c12 x10_f0 x10_f1 x10_f2 x10_f3 x10_f4 x10_f5 x10_f6 x10_f7 x10_f8 x10_f9 x10_f10 x10_f11 x10_f12 x5_c0 x5_c1 x5_c2 x5_c3 x5_c4 x5_c5 x5_c6 x5_c7 x5_c8 x5_c9 x5_f0 x5_f1 x5_f2 x5_f3 x5_f4 x5_f5 x5_f6 x5_f7 x5_f8 x5_f9
                    replace Hx2 := Lib.hid ((hb.block _ (lt_of_block Hx2.out)).trans Hx2.out)
                    replace Hx5 := Lib.hid ((hb.block _ (lt_of_block Hx5.out)).trans Hx5.out)
                    replace Hx10 := Lib.hid ((hb.block _ (lt_of_block Hx10.out)).trans Hx10.out)
                    replace Hx11 := Lib.hid ((hb.block _ (lt_of_block Hx11.out)).trans Hx11.out)
                    replace Hf5 := Lib.hid (Hf5.out.below hb)
                    replace Hf11 := Lib.hid (Hf11.out.below hb)
                    replace HB := Lib.hid (HB.out.trans (hb.mono HB.out.size))
                    clear hb HX
                    go_upto_region 26 with fail
                    obtain ⟨bx14, hdx14⟩ : ∃ b, b = wD.heap.size := ⟨_, rfl⟩
                    have hgex14 : w.heap.size ≤ bx14 := by rw [hdx14]; exact HB.out.size
                    have hltx2x14 : bx2 < bx14 := by rw [hdx14]; exact lt_of_block Hx2.out
                    have hltx5x14 : bx5 < bx14 := by rw [hdx14]; exact lt_of_block Hx5.out
                    have hltx10x14 : bx10 < bx14 := by rw [hdx14]; exact lt_of_block Hx10.out
                    have hltx11x14 : bx11 < bx14 := by rw [hdx14]; exact lt_of_block Hx11.out
                    obtain ⟨W5, hW5⟩ : ∃ X, X = wD.alloc (.cells #[.int .i8 0, .int .i64 0, .int .i64 0, .int .i64 0, .string { data := #[] }, .int .i64 0] 52) := ⟨_, rfl⟩
                    have hlx14 := laid1 wD (.cells #[.int .i8 0, .int .i64 0, .int .i64 0, .int .i64 0, .string { data := #[] }, .int .i64 0] 52)
                    have hbx14 := below1 wD (.cells #[.int .i8 0, .int .i64 0, .int .i64 0, .int .i64 0, .string { data := #[] }, .int .i64 0] 52)
                    rw [← hW5] at hlx14 hbx14 ⊢
                    clear hW5
                    replace Hf5 := Lib.hid (Hf5.out.more (M := (fun b => b ∈ ([bx5, bx10, bx11, bx14] : List Nat))) (by intro b hb; simp only [List.mem_cons, List.not_mem_nil, or_false] at hb ⊢ <;> (first | omega | (right; omega))))
                    replace Hf11 := Lib.hid (Hf11.out.more (M := (fun b => b ∈ ([bx5, bx10, bx11, bx14] : List Nat))) (by intro b hb; simp only [List.mem_cons, List.not_mem_nil, or_false] at hb ⊢ <;> (first | omega | (right; omega))))
                    replace Hx2 := Lib.hid ((hbx14.block _ (lt_of_block Hx2.out)).trans Hx2.out)
                    replace Hx5 := Lib.hid ((hbx14.block _ (lt_of_block Hx5.out)).trans Hx5.out)
                    replace Hx10 := Lib.hid ((hbx14.block _ (lt_of_block Hx10.out)).trans Hx10.out)
                    replace Hx11 := Lib.hid ((hbx14.block _ (lt_of_block Hx11.out)).trans Hx11.out)
                    replace Hf5 := Lib.hid (Hf5.out.below hbx14)
                    replace Hf11 := Lib.hid (Hf11.out.below hbx14)
                    replace HB := Lib.hid (HB.out.trans (hbx14.mono HB.out.size))
                    rw [← hdx14] at hlx14 ⊢
                    replace Hx14 := Lib.hid hlx14
                    clear hlx14 hbx14 hdx14
                    obtain ⟨E, hE⟩ : ∃ X, X = endP A y := ⟨_, rfl⟩
                    obtain ⟨M, hM⟩ : ∃ X, X = endM A y := ⟨_, rfl⟩
                    have hr : (100 : Int) = endE A y := by unfold endE; rw [HRDY.out]; rfl
                    obtain ⟨⟨x10_c0, x10_c1, x10_c2, x10_c3, x10_c4, x10_c5, x10_c6, x10_c7, x10_c8, x10_c9, x10_c10, x10_c11, x10_c12⟩, x10_f0, x10_f1, x10_f2, x10_f3, x10_f4, x10_f5, x10_f6, x10_f7, x10_f8, x10_f9, x10_f10, x10_f11, x10_f12⟩ := boxes13 Hx10.out
                    obtain ⟨⟨x5_c0, x5_c1, x5_c2, x5_c3, x5_c4, x5_c5, x5_c6, x5_c7, x5_c8, x5_c9⟩, x5_f0, x5_f1, x5_f2, x5_f3, x5_f4, x5_f5, x5_f6, x5_f7, x5_f8, x5_f9⟩ := boxes10 Hx5.out
                    obtain ⟨⟨x11_c0, x11_c1, x11_c2, x11_c3, x11_c4, x11_c5, x11_c6, x11_c7, x11_c8, x11_c9⟩, x11_f0, x11_f1, x11_f2, x11_f3, x11_f4, x11_f5, x11_f6, x11_f7, x11_f8, x11_f9⟩ := boxes10 Hx11.out
                    obtain ⟨⟨x14_c0, x14_c1, x14_c2, x14_c3, x14_c4, x14_c5⟩, x14_f0, x14_f1, x14_f2, x14_f3, x14_f4, x14_f5⟩ := boxes6 Hx14.out
                    have HX := Lib.hid (HEn.out (fun b => b ∈ ([bx5, bx10, bx11, bx14] : List Nat)) A ⟨p0, a1, c1, a2, c2, a3, c3, a4, c4⟩ y W5 E M 100 (by have := lt_of_block Hx5.out; have := lt_of_block Hx10.out; have := lt_of_block Hx11.out; have := lt_of_block Hx14.out; intro b hb; simp only [List.mem_cons, List.not_mem_nil, or_false] at hb <;> omega) HRm.out Hf5.out hE hM hr)
                    try simp only [Wv.val, Wv.cells, Ad.v] at HX
                    have HEd := Lib.hid hE
                    have HMd := Lib.hid hM
                    clear hE hM hr
                    go_wp2_with fail
                    with_reducible refine HX.out.mono ?_
                    rintro e wE ⟨⟨pe, ae1, ce1, ae2, ce2, ae3, ce3, ae4, ce4⟩, rfl, hfl, hb⟩
                    clear Hf11
                    clear x10_c0 x10_c1 x10_c2 x10_c3 x10_c4 x10_c5 x10_c6 x10_c7 x10_c8 x10_c9 x10_c10 x10_c11 x10_c12 x10_f0 x10_f1 x10_f2 x10_f3 x10_f4 x10_f5 x10_f6 x10_f7 x10_f8 x10_f9 x10_f10 x10_f11 x10_f12 x5_c0 x5_c1 x5_c2 x5_c3 x5_c4 x5_c5 x5_c6 x5_c7 x5_c8 x5_c9 x5_f0 x5_f1 x5_f2 x5_f3 x5_f4 x5_f5 x5_f6 x5_f7 x5_f8 x5_f9 x11_c0 x11_c1 x11_c2 x11_c3 x11_c4 x11_c5 x11_c6 x11_c7 x11_c8 x11_c9 x11_f0 x11_f1 x11_f2 x11_f3 x11_f4 x11_f5 x11_f6 x11_f7 x11_f8 x11_f9 x14_c0 x14_c1 x14_c2 x14_c3 x14_c4 x14_c5 x14_f0 x14_f1 x14_f2 x14_f3 x14_f4 x14_f5
                    replace Hx2 := Lib.hid ((hb.block _ (lt_of_block Hx2.out)).trans Hx2.out)
                    replace Hx5 := Lib.hid ((hb.block _ (lt_of_block Hx5.out)).trans Hx5.out)
                    replace Hx10 := Lib.hid ((hb.block _ (lt_of_block Hx10.out)).trans Hx10.out)
                    replace Hx11 := Lib.hid ((hb.block _ (lt_of_block Hx11.out)).trans Hx11.out)
                    replace Hx14 := Lib.hid ((hb.block _ (lt_of_block Hx14.out)).trans Hx14.out)
                    replace Hf5 := Lib.hid (Hf5.out.below hb)
                    replace HB := Lib.hid (HB.out.trans (hb.mono HB.out.size))
                    replace Hf11 := Lib.hid hfl
                    clear hb hfl HX
                    simp only [Wv.val, Wv.cells, Lt.v]
                    obtain ⟨⟨x11_c0, x11_c1, x11_c2, x11_c3, x11_c4, x11_c5, x11_c6, x11_c7, x11_c8, x11_c9⟩, x11_f0, x11_f1, x11_f2, x11_f3, x11_f4, x11_f5, x11_f6, x11_f7, x11_f8, x11_f9⟩ := boxes10 Hx11.out
                    obtain ⟨⟨x14_c0, x14_c1, x14_c2, x14_c3, x14_c4, x14_c5⟩, x14_f0, x14_f1, x14_f2, x14_f3, x14_f4, x14_f5⟩ := boxes6 Hx14.out
                    go_upto_region 27 with fail
                    clear x11_c0 x11_c1 x11_c2 x11_c3 x11_c4 x11_c5 x11_c6 x11_c7 x11_c8 x11_c9 x11_f0 x11_f1 x11_f2 x11_f3 x11_f4 x11_f5 x11_f6 x11_f7 x11_f8 x11_f9 x14_c0 x14_c1 x14_c2 x14_c3 x14_c4 x14_c5 x14_f0 x14_f1 x14_f2 x14_f3 x14_f4 x14_f5
                    obtain ⟨W6, hW6⟩ : ∃ X, X = set10 wE bx11 (.slice pe.za E.plan.zones.length pe.zc) (.slice pe.fa E.plan.fates.length pe.fc) (.int .i64 E.plan.ticks) (.slice pe.da E.plan.drops.length pe.dc) (.int .i64 E.clock) (.slice ae1 E.socks.length ce1) (.slice ae2 E.dials.length ce2) (.slice ae3 E.looks.length ce3) (.int .i64 E.dropped) (.slice ae4 E.marks.length ce4) := ⟨_, rfl⟩
                    have hqx11 := set10_at Hx11.out (.slice pe.za E.plan.zones.length pe.zc) (.slice pe.fa E.plan.fates.length pe.fc) (.int .i64 E.plan.ticks) (.slice pe.da E.plan.drops.length pe.dc) (.int .i64 E.clock) (.slice ae1 E.socks.length ce1) (.slice ae2 E.dials.length ce2) (.slice ae3 E.looks.length ce3) (.int .i64 E.dropped) (.slice ae4 E.marks.length ce4)
                    have hb := set10_below HB.out hgex11 (.slice pe.za E.plan.zones.length pe.zc) (.slice pe.fa E.plan.fates.length pe.fc) (.int .i64 E.plan.ticks) (.slice pe.da E.plan.drops.length pe.dc) (.int .i64 E.clock) (.slice ae1 E.socks.length ce1) (.slice ae2 E.dials.length ce2) (.slice ae3 E.looks.length ce3) (.int .i64 E.dropped) (.slice ae4 E.marks.length ce4)
                    have hqx2 := (set10_other wE bx11 bx2 (.slice pe.za E.plan.zones.length pe.zc) (.slice pe.fa E.plan.fates.length pe.fc) (.int .i64 E.plan.ticks) (.slice pe.da E.plan.drops.length pe.dc) (.int .i64 E.clock) (.slice ae1 E.socks.length ce1) (.slice ae2 E.dials.length ce2) (.slice ae3 E.looks.length ce3) (.int .i64 E.dropped) (.slice ae4 E.marks.length ce4) (by omega)).trans Hx2.out
                    have hqx5 := (set10_other wE bx11 bx5 (.slice pe.za E.plan.zones.length pe.zc) (.slice pe.fa E.plan.fates.length pe.fc) (.int .i64 E.plan.ticks) (.slice pe.da E.plan.drops.length pe.dc) (.int .i64 E.clock) (.slice ae1 E.socks.length ce1) (.slice ae2 E.dials.length ce2) (.slice ae3 E.looks.length ce3) (.int .i64 E.dropped) (.slice ae4 E.marks.length ce4) (by omega)).trans Hx5.out
                    have hqx10 := (set10_other wE bx11 bx10 (.slice pe.za E.plan.zones.length pe.zc) (.slice pe.fa E.plan.fates.length pe.fc) (.int .i64 E.plan.ticks) (.slice pe.da E.plan.drops.length pe.dc) (.int .i64 E.clock) (.slice ae1 E.socks.length ce1) (.slice ae2 E.dials.length ce2) (.slice ae3 E.looks.length ce3) (.int .i64 E.dropped) (.slice ae4 E.marks.length ce4) (by omega)).trans Hx10.out
                    have hqx14 := (set10_other wE bx11 bx14 (.slice pe.za E.plan.zones.length pe.zc) (.slice pe.fa E.plan.fates.length pe.fc) (.int .i64 E.plan.ticks) (.slice pe.da E.plan.drops.length pe.dc) (.int .i64 E.clock) (.slice ae1 E.socks.length ce1) (.slice ae2 E.dials.length ce2) (.slice ae3 E.looks.length ce3) (.int .i64 E.dropped) (.slice ae4 E.marks.length ce4) (by omega)).trans Hx14.out
                    have hqf5 := set10_flat (b := bx11) Hf5.out (by simp) (.slice pe.za E.plan.zones.length pe.zc) (.slice pe.fa E.plan.fates.length pe.fc) (.int .i64 E.plan.ticks) (.slice pe.da E.plan.drops.length pe.dc) (.int .i64 E.clock) (.slice ae1 E.socks.length ce1) (.slice ae2 E.dials.length ce2) (.slice ae3 E.looks.length ce3) (.int .i64 E.dropped) (.slice ae4 E.marks.length ce4)
                    have hqf11 := set10_flat (b := bx11) Hf11.out (by simp) (.slice pe.za E.plan.zones.length pe.zc) (.slice pe.fa E.plan.fates.length pe.fc) (.int .i64 E.plan.ticks) (.slice pe.da E.plan.drops.length pe.dc) (.int .i64 E.clock) (.slice ae1 E.socks.length ce1) (.slice ae2 E.dials.length ce2) (.slice ae3 E.looks.length ce3) (.int .i64 E.dropped) (.slice ae4 E.marks.length ce4)
                    rw [← hW6] at hqx11 hb hqx2 hqx5 hqx10 hqx14 hqf5 hqf11
                    unfold set10 at hW6
                    rw [← hW6]
                    clear hW6
                    replace HB := Lib.hid hb
                    replace Hx2 := Lib.hid hqx2
                    replace Hx5 := Lib.hid hqx5
                    replace Hx10 := Lib.hid hqx10
                    replace Hx11 := Lib.hid hqx11
                    replace Hx14 := Lib.hid hqx14
                    replace Hf5 := Lib.hid hqf5
                    replace Hf11 := Lib.hid hqf11
                    clear hqx11 hb hqx2 hqx5 hqx10 hqx14 hqf5 hqf11
                    obtain ⟨W7, hW7⟩ : ∃ X, X = set6 W6 bx14 (.int .i8 M.kind) (.int .i64 M.fr) (.int .i64 M.num) (.int .i64 M.sock) (.string M.text) (.int .i64 M.e) := ⟨_, rfl⟩
                    have hqx14 := set6_at Hx14.out (.int .i8 M.kind) (.int .i64 M.fr) (.int .i64 M.num) (.int .i64 M.sock) (.string M.text) (.int .i64 M.e)
                    have hb := set6_below HB.out hgex14 (.int .i8 M.kind) (.int .i64 M.fr) (.int .i64 M.num) (.int .i64 M.sock) (.string M.text) (.int .i64 M.e)
                    have hqx2 := (set6_other W6 bx14 bx2 (.int .i8 M.kind) (.int .i64 M.fr) (.int .i64 M.num) (.int .i64 M.sock) (.string M.text) (.int .i64 M.e) (by omega)).trans Hx2.out
                    have hqx5 := (set6_other W6 bx14 bx5 (.int .i8 M.kind) (.int .i64 M.fr) (.int .i64 M.num) (.int .i64 M.sock) (.string M.text) (.int .i64 M.e) (by omega)).trans Hx5.out
                    have hqx10 := (set6_other W6 bx14 bx10 (.int .i8 M.kind) (.int .i64 M.fr) (.int .i64 M.num) (.int .i64 M.sock) (.string M.text) (.int .i64 M.e) (by omega)).trans Hx10.out
                    have hqx11 := (set6_other W6 bx14 bx11 (.int .i8 M.kind) (.int .i64 M.fr) (.int .i64 M.num) (.int .i64 M.sock) (.string M.text) (.int .i64 M.e) (by omega)).trans Hx11.out
                    have hqf5 := set6_flat (b := bx14) Hf5.out (by simp) (.int .i8 M.kind) (.int .i64 M.fr) (.int .i64 M.num) (.int .i64 M.sock) (.string M.text) (.int .i64 M.e)
                    have hqf11 := set6_flat (b := bx14) Hf11.out (by simp) (.int .i8 M.kind) (.int .i64 M.fr) (.int .i64 M.num) (.int .i64 M.sock) (.string M.text) (.int .i64 M.e)
                    rw [← hW7] at hqx14 hb hqx2 hqx5 hqx10 hqx11 hqf5 hqf11
                    unfold set6 at hW7
                    rw [← hW7]
                    clear hW7
                    replace HB := Lib.hid hb
                    replace Hx2 := Lib.hid hqx2
                    replace Hx5 := Lib.hid hqx5
                    replace Hx10 := Lib.hid hqx10
                    replace Hx11 := Lib.hid hqx11
                    replace Hx14 := Lib.hid hqx14
                    replace Hf5 := Lib.hid hqf5
                    replace Hf11 := Lib.hid hqf11
                    clear hqx14 hb hqx2 hqx5 hqx10 hqx11 hqf5 hqf11
                    have hEA : E = A := by rw [HEd.out]; exact end_not HRDY.out
                    subst hEA
                    have Hrow := Lib.hid (Hf11.out.more (M := (fun b => b ∈ ([bx5] : List Nat))) (by intro b hb; simp only [List.mem_cons, List.not_mem_nil, or_false] at hb ⊢ <;> (first | omega | (right; omega))))
                    have Hro5 := Lib.hid (Hf5.out.more (M := (fun b => b ∈ ([bx5] : List Nat))) (by intro b hb; simp only [List.mem_cons, List.not_mem_nil, or_false] at hb ⊢ <;> (first | omega | (right; omega))))
                    go_wp2_with fail
                    go_meet
                    exact ⟨wl, un, 100, E, pe, ae1, ce1, ae2, ce2, ae3, ce3, ae4, ce4, by first | rfl | go_num, by first | rfl | go_num, rfl, Lib.hid HI.out.more, Lib.hid (fun _ => rfl), Hrow, Hro5, Hx11, Hx5, Hx2, HB⟩
                | true =>
                    obtain ⟨⟨x10_c0, x10_c1, x10_c2, x10_c3, x10_c4, x10_c5, x10_c6, x10_c7, x10_c8, x10_c9, x10_c10, x10_c11, x10_c12⟩, x10_f0, x10_f1, x10_f2, x10_f3, x10_f4, x10_f5, x10_f6, x10_f7, x10_f8, x10_f9, x10_f10, x10_f11, x10_f12⟩ := boxes13 Hx10.out
                    obtain ⟨⟨x5_c0, x5_c1, x5_c2, x5_c3, x5_c4, x5_c5, x5_c6, x5_c7, x5_c8, x5_c9⟩, x5_f0, x5_f1, x5_f2, x5_f3, x5_f4, x5_f5, x5_f6, x5_f7, x5_f8, x5_f9⟩ := boxes10 Hx5.out
                    have HX := Lib.hid (HRd.out A ⟨p0, a1, c1, a2, c2, a3, c3, a4, c4⟩ y W4 true HRm.out Hf5.out.world hrd.symm)
                    try simp only [Wv.val, Wv.cells, Ad.v] at HX
                    have HRDY := Lib.hid hrd
                    clear hrd
                    go_wp2_with fail
                    with_reducible refine HX.out.mono ?_
                    rintro e wD ⟨rfl, hb⟩
                    clear x10_c0 x10_c1 x10_c2 x10_c3 x10_c4 x10_c5 x10_c6 x10_c7 x10_c8 x10_c9 x10_c10 x10_c11 x10_c12 x10_f0 x10_f1 x10_f2 x10_f3 x10_f4 x10_f5 x10_f6 x10_f7 x10_f8 x10_f9 x10_f10 x10_f11 x10_f12 x5_c0 x5_c1 x5_c2 x5_c3 x5_c4 x5_c5 x5_c6 x5_c7 x5_c8 x5_c9 x5_f0 x5_f1 x5_f2 x5_f3 x5_f4 x5_f5 x5_f6 x5_f7 x5_f8 x5_f9
                    replace Hx2 := Lib.hid ((hb.block _ (lt_of_block Hx2.out)).trans Hx2.out)
                    replace Hx5 := Lib.hid ((hb.block _ (lt_of_block Hx5.out)).trans Hx5.out)
                    replace Hx10 := Lib.hid ((hb.block _ (lt_of_block Hx10.out)).trans Hx10.out)
                    replace Hx11 := Lib.hid ((hb.block _ (lt_of_block Hx11.out)).trans Hx11.out)
                    replace Hf5 := Lib.hid (Hf5.out.below hb)
                    replace Hf11 := Lib.hid (Hf11.out.below hb)
                    replace HB := Lib.hid (HB.out.trans (hb.mono HB.out.size))
                    clear hb HX
                    go_upto_region 26 with fail
                    obtain ⟨bx14, hdx14⟩ : ∃ b, b = wD.heap.size := ⟨_, rfl⟩
                    have hgex14 : w.heap.size ≤ bx14 := by rw [hdx14]; exact HB.out.size
                    have hltx2x14 : bx2 < bx14 := by rw [hdx14]; exact lt_of_block Hx2.out
                    have hltx5x14 : bx5 < bx14 := by rw [hdx14]; exact lt_of_block Hx5.out
                    have hltx10x14 : bx10 < bx14 := by rw [hdx14]; exact lt_of_block Hx10.out
                    have hltx11x14 : bx11 < bx14 := by rw [hdx14]; exact lt_of_block Hx11.out
                    obtain ⟨W5, hW5⟩ : ∃ X, X = wD.alloc (.cells #[.int .i8 0, .int .i64 0, .int .i64 0, .int .i64 0, .string { data := #[] }, .int .i64 0] 52) := ⟨_, rfl⟩
                    have hlx14 := laid1 wD (.cells #[.int .i8 0, .int .i64 0, .int .i64 0, .int .i64 0, .string { data := #[] }, .int .i64 0] 52)
                    have hbx14 := below1 wD (.cells #[.int .i8 0, .int .i64 0, .int .i64 0, .int .i64 0, .string { data := #[] }, .int .i64 0] 52)
                    rw [← hW5] at hlx14 hbx14 ⊢
                    clear hW5
                    replace Hf5 := Lib.hid (Hf5.out.more (M := (fun b => b ∈ ([bx5, bx10, bx11, bx14] : List Nat))) (by intro b hb; simp only [List.mem_cons, List.not_mem_nil, or_false] at hb ⊢ <;> (first | omega | (right; omega))))
                    replace Hf11 := Lib.hid (Hf11.out.more (M := (fun b => b ∈ ([bx5, bx10, bx11, bx14] : List Nat))) (by intro b hb; simp only [List.mem_cons, List.not_mem_nil, or_false] at hb ⊢ <;> (first | omega | (right; omega))))
                    replace Hx2 := Lib.hid ((hbx14.block _ (lt_of_block Hx2.out)).trans Hx2.out)
                    replace Hx5 := Lib.hid ((hbx14.block _ (lt_of_block Hx5.out)).trans Hx5.out)
                    replace Hx10 := Lib.hid ((hbx14.block _ (lt_of_block Hx10.out)).trans Hx10.out)
                    replace Hx11 := Lib.hid ((hbx14.block _ (lt_of_block Hx11.out)).trans Hx11.out)
                    replace Hf5 := Lib.hid (Hf5.out.below hbx14)
                    replace Hf11 := Lib.hid (Hf11.out.below hbx14)
                    replace HB := Lib.hid (HB.out.trans (hbx14.mono HB.out.size))
                    rw [← hdx14] at hlx14 ⊢
                    replace Hx14 := Lib.hid hlx14
                    clear hlx14 hbx14 hdx14
                    obtain ⟨E, hE⟩ : ∃ X, X = endP A y := ⟨_, rfl⟩
                    obtain ⟨M, hM⟩ : ∃ X, X = endM A y := ⟨_, rfl⟩
                    have hr : (0 : Int) = endE A y := by unfold endE; rw [HRDY.out]; rfl
                    obtain ⟨⟨x10_c0, x10_c1, x10_c2, x10_c3, x10_c4, x10_c5, x10_c6, x10_c7, x10_c8, x10_c9, x10_c10, x10_c11, x10_c12⟩, x10_f0, x10_f1, x10_f2, x10_f3, x10_f4, x10_f5, x10_f6, x10_f7, x10_f8, x10_f9, x10_f10, x10_f11, x10_f12⟩ := boxes13 Hx10.out
                    obtain ⟨⟨x5_c0, x5_c1, x5_c2, x5_c3, x5_c4, x5_c5, x5_c6, x5_c7, x5_c8, x5_c9⟩, x5_f0, x5_f1, x5_f2, x5_f3, x5_f4, x5_f5, x5_f6, x5_f7, x5_f8, x5_f9⟩ := boxes10 Hx5.out
                    obtain ⟨⟨x11_c0, x11_c1, x11_c2, x11_c3, x11_c4, x11_c5, x11_c6, x11_c7, x11_c8, x11_c9⟩, x11_f0, x11_f1, x11_f2, x11_f3, x11_f4, x11_f5, x11_f6, x11_f7, x11_f8, x11_f9⟩ := boxes10 Hx11.out
                    obtain ⟨⟨x14_c0, x14_c1, x14_c2, x14_c3, x14_c4, x14_c5⟩, x14_f0, x14_f1, x14_f2, x14_f3, x14_f4, x14_f5⟩ := boxes6 Hx14.out
                    have HX := Lib.hid (HEn.out (fun b => b ∈ ([bx5, bx10, bx11, bx14] : List Nat)) A ⟨p0, a1, c1, a2, c2, a3, c3, a4, c4⟩ y W5 E M 0 (by have := lt_of_block Hx5.out; have := lt_of_block Hx10.out; have := lt_of_block Hx11.out; have := lt_of_block Hx14.out; intro b hb; simp only [List.mem_cons, List.not_mem_nil, or_false] at hb <;> omega) HRm.out Hf5.out hE hM hr)
                    try simp only [Wv.val, Wv.cells, Ad.v] at HX
                    have HEd := Lib.hid hE
                    have HMd := Lib.hid hM
                    clear hE hM hr
                    go_wp2_with fail
                    with_reducible refine HX.out.mono ?_
                    rintro e wE ⟨⟨pe, ae1, ce1, ae2, ce2, ae3, ce3, ae4, ce4⟩, rfl, hfl, hb⟩
                    clear Hf11
                    clear x10_c0 x10_c1 x10_c2 x10_c3 x10_c4 x10_c5 x10_c6 x10_c7 x10_c8 x10_c9 x10_c10 x10_c11 x10_c12 x10_f0 x10_f1 x10_f2 x10_f3 x10_f4 x10_f5 x10_f6 x10_f7 x10_f8 x10_f9 x10_f10 x10_f11 x10_f12 x5_c0 x5_c1 x5_c2 x5_c3 x5_c4 x5_c5 x5_c6 x5_c7 x5_c8 x5_c9 x5_f0 x5_f1 x5_f2 x5_f3 x5_f4 x5_f5 x5_f6 x5_f7 x5_f8 x5_f9 x11_c0 x11_c1 x11_c2 x11_c3 x11_c4 x11_c5 x11_c6 x11_c7 x11_c8 x11_c9 x11_f0 x11_f1 x11_f2 x11_f3 x11_f4 x11_f5 x11_f6 x11_f7 x11_f8 x11_f9 x14_c0 x14_c1 x14_c2 x14_c3 x14_c4 x14_c5 x14_f0 x14_f1 x14_f2 x14_f3 x14_f4 x14_f5
                    replace Hx2 := Lib.hid ((hb.block _ (lt_of_block Hx2.out)).trans Hx2.out)
                    replace Hx5 := Lib.hid ((hb.block _ (lt_of_block Hx5.out)).trans Hx5.out)
                    replace Hx10 := Lib.hid ((hb.block _ (lt_of_block Hx10.out)).trans Hx10.out)
                    replace Hx11 := Lib.hid ((hb.block _ (lt_of_block Hx11.out)).trans Hx11.out)
                    replace Hx14 := Lib.hid ((hb.block _ (lt_of_block Hx14.out)).trans Hx14.out)
                    replace Hf5 := Lib.hid (Hf5.out.below hb)
                    replace HB := Lib.hid (HB.out.trans (hb.mono HB.out.size))
                    replace Hf11 := Lib.hid hfl
                    clear hb hfl HX
                    simp only [Wv.val, Wv.cells, Lt.v]
                    obtain ⟨⟨x11_c0, x11_c1, x11_c2, x11_c3, x11_c4, x11_c5, x11_c6, x11_c7, x11_c8, x11_c9⟩, x11_f0, x11_f1, x11_f2, x11_f3, x11_f4, x11_f5, x11_f6, x11_f7, x11_f8, x11_f9⟩ := boxes10 Hx11.out
                    obtain ⟨⟨x14_c0, x14_c1, x14_c2, x14_c3, x14_c4, x14_c5⟩, x14_f0, x14_f1, x14_f2, x14_f3, x14_f4, x14_f5⟩ := boxes6 Hx14.out
                    go_upto_region 27 with fail
                    clear x11_c0 x11_c1 x11_c2 x11_c3 x11_c4 x11_c5 x11_c6 x11_c7 x11_c8 x11_c9 x11_f0 x11_f1 x11_f2 x11_f3 x11_f4 x11_f5 x11_f6 x11_f7 x11_f8 x11_f9 x14_c0 x14_c1 x14_c2 x14_c3 x14_c4 x14_c5 x14_f0 x14_f1 x14_f2 x14_f3 x14_f4 x14_f5
                    obtain ⟨W6, hW6⟩ : ∃ X, X = set10 wE bx11 (.slice pe.za E.plan.zones.length pe.zc) (.slice pe.fa E.plan.fates.length pe.fc) (.int .i64 E.plan.ticks) (.slice pe.da E.plan.drops.length pe.dc) (.int .i64 E.clock) (.slice ae1 E.socks.length ce1) (.slice ae2 E.dials.length ce2) (.slice ae3 E.looks.length ce3) (.int .i64 E.dropped) (.slice ae4 E.marks.length ce4) := ⟨_, rfl⟩
                    have hqx11 := set10_at Hx11.out (.slice pe.za E.plan.zones.length pe.zc) (.slice pe.fa E.plan.fates.length pe.fc) (.int .i64 E.plan.ticks) (.slice pe.da E.plan.drops.length pe.dc) (.int .i64 E.clock) (.slice ae1 E.socks.length ce1) (.slice ae2 E.dials.length ce2) (.slice ae3 E.looks.length ce3) (.int .i64 E.dropped) (.slice ae4 E.marks.length ce4)
                    have hb := set10_below HB.out hgex11 (.slice pe.za E.plan.zones.length pe.zc) (.slice pe.fa E.plan.fates.length pe.fc) (.int .i64 E.plan.ticks) (.slice pe.da E.plan.drops.length pe.dc) (.int .i64 E.clock) (.slice ae1 E.socks.length ce1) (.slice ae2 E.dials.length ce2) (.slice ae3 E.looks.length ce3) (.int .i64 E.dropped) (.slice ae4 E.marks.length ce4)
                    have hqx2 := (set10_other wE bx11 bx2 (.slice pe.za E.plan.zones.length pe.zc) (.slice pe.fa E.plan.fates.length pe.fc) (.int .i64 E.plan.ticks) (.slice pe.da E.plan.drops.length pe.dc) (.int .i64 E.clock) (.slice ae1 E.socks.length ce1) (.slice ae2 E.dials.length ce2) (.slice ae3 E.looks.length ce3) (.int .i64 E.dropped) (.slice ae4 E.marks.length ce4) (by omega)).trans Hx2.out
                    have hqx5 := (set10_other wE bx11 bx5 (.slice pe.za E.plan.zones.length pe.zc) (.slice pe.fa E.plan.fates.length pe.fc) (.int .i64 E.plan.ticks) (.slice pe.da E.plan.drops.length pe.dc) (.int .i64 E.clock) (.slice ae1 E.socks.length ce1) (.slice ae2 E.dials.length ce2) (.slice ae3 E.looks.length ce3) (.int .i64 E.dropped) (.slice ae4 E.marks.length ce4) (by omega)).trans Hx5.out
                    have hqx10 := (set10_other wE bx11 bx10 (.slice pe.za E.plan.zones.length pe.zc) (.slice pe.fa E.plan.fates.length pe.fc) (.int .i64 E.plan.ticks) (.slice pe.da E.plan.drops.length pe.dc) (.int .i64 E.clock) (.slice ae1 E.socks.length ce1) (.slice ae2 E.dials.length ce2) (.slice ae3 E.looks.length ce3) (.int .i64 E.dropped) (.slice ae4 E.marks.length ce4) (by omega)).trans Hx10.out
                    have hqx14 := (set10_other wE bx11 bx14 (.slice pe.za E.plan.zones.length pe.zc) (.slice pe.fa E.plan.fates.length pe.fc) (.int .i64 E.plan.ticks) (.slice pe.da E.plan.drops.length pe.dc) (.int .i64 E.clock) (.slice ae1 E.socks.length ce1) (.slice ae2 E.dials.length ce2) (.slice ae3 E.looks.length ce3) (.int .i64 E.dropped) (.slice ae4 E.marks.length ce4) (by omega)).trans Hx14.out
                    have hqf5 := set10_flat (b := bx11) Hf5.out (by simp) (.slice pe.za E.plan.zones.length pe.zc) (.slice pe.fa E.plan.fates.length pe.fc) (.int .i64 E.plan.ticks) (.slice pe.da E.plan.drops.length pe.dc) (.int .i64 E.clock) (.slice ae1 E.socks.length ce1) (.slice ae2 E.dials.length ce2) (.slice ae3 E.looks.length ce3) (.int .i64 E.dropped) (.slice ae4 E.marks.length ce4)
                    have hqf11 := set10_flat (b := bx11) Hf11.out (by simp) (.slice pe.za E.plan.zones.length pe.zc) (.slice pe.fa E.plan.fates.length pe.fc) (.int .i64 E.plan.ticks) (.slice pe.da E.plan.drops.length pe.dc) (.int .i64 E.clock) (.slice ae1 E.socks.length ce1) (.slice ae2 E.dials.length ce2) (.slice ae3 E.looks.length ce3) (.int .i64 E.dropped) (.slice ae4 E.marks.length ce4)
                    rw [← hW6] at hqx11 hb hqx2 hqx5 hqx10 hqx14 hqf5 hqf11
                    unfold set10 at hW6
                    rw [← hW6]
                    clear hW6
                    replace HB := Lib.hid hb
                    replace Hx2 := Lib.hid hqx2
                    replace Hx5 := Lib.hid hqx5
                    replace Hx10 := Lib.hid hqx10
                    replace Hx11 := Lib.hid hqx11
                    replace Hx14 := Lib.hid hqx14
                    replace Hf5 := Lib.hid hqf5
                    replace Hf11 := Lib.hid hqf11
                    clear hqx11 hb hqx2 hqx5 hqx10 hqx14 hqf5 hqf11
                    obtain ⟨W7, hW7⟩ : ∃ X, X = set6 W6 bx14 (.int .i8 M.kind) (.int .i64 M.fr) (.int .i64 M.num) (.int .i64 M.sock) (.string M.text) (.int .i64 M.e) := ⟨_, rfl⟩
                    have hqx14 := set6_at Hx14.out (.int .i8 M.kind) (.int .i64 M.fr) (.int .i64 M.num) (.int .i64 M.sock) (.string M.text) (.int .i64 M.e)
                    have hb := set6_below HB.out hgex14 (.int .i8 M.kind) (.int .i64 M.fr) (.int .i64 M.num) (.int .i64 M.sock) (.string M.text) (.int .i64 M.e)
                    have hqx2 := (set6_other W6 bx14 bx2 (.int .i8 M.kind) (.int .i64 M.fr) (.int .i64 M.num) (.int .i64 M.sock) (.string M.text) (.int .i64 M.e) (by omega)).trans Hx2.out
                    have hqx5 := (set6_other W6 bx14 bx5 (.int .i8 M.kind) (.int .i64 M.fr) (.int .i64 M.num) (.int .i64 M.sock) (.string M.text) (.int .i64 M.e) (by omega)).trans Hx5.out
                    have hqx10 := (set6_other W6 bx14 bx10 (.int .i8 M.kind) (.int .i64 M.fr) (.int .i64 M.num) (.int .i64 M.sock) (.string M.text) (.int .i64 M.e) (by omega)).trans Hx10.out
                    have hqx11 := (set6_other W6 bx14 bx11 (.int .i8 M.kind) (.int .i64 M.fr) (.int .i64 M.num) (.int .i64 M.sock) (.string M.text) (.int .i64 M.e) (by omega)).trans Hx11.out
                    have hqf5 := set6_flat (b := bx14) Hf5.out (by simp) (.int .i8 M.kind) (.int .i64 M.fr) (.int .i64 M.num) (.int .i64 M.sock) (.string M.text) (.int .i64 M.e)
                    have hqf11 := set6_flat (b := bx14) Hf11.out (by simp) (.int .i8 M.kind) (.int .i64 M.fr) (.int .i64 M.num) (.int .i64 M.sock) (.string M.text) (.int .i64 M.e)
                    rw [← hW7] at hqx14 hb hqx2 hqx5 hqx10 hqx11 hqf5 hqf11
                    unfold set6 at hW7
                    rw [← hW7]
                    clear hW7
                    replace HB := Lib.hid hb
                    replace Hx2 := Lib.hid hqx2
                    replace Hx5 := Lib.hid hqx5
                    replace Hx10 := Lib.hid hqx10
                    replace Hx11 := Lib.hid hqx11
                    replace Hx14 := Lib.hid hqx14
                    replace Hf5 := Lib.hid hqf5
                    replace Hf11 := Lib.hid hqf11
                    clear hqx14 hb hqx2 hqx5 hqx10 hqx11 hqf5 hqf11
                    obtain ⟨hun, hinv⟩ := invk_end HI.out y HRDY.out
                    obtain ⟨u2, rfl⟩ : ∃ u2, un = u2 + 1 := ⟨un - 1, by omega⟩
                    rw [Nat.add_sub_cancel, ← HEd.out] at hinv
                    have huw : IntKind.i64.wrap (((u2 + 1 : Nat) : Int) - 1) = (u2 : Int) := by have := HSm.out; rw [IntKind.wrap_i64]; omega
                    have huw2 : IntKind.i64.wrap ((u2 : Int) + 1 - 1) = (u2 : Int) := by have := HSm.out; rw [IntKind.wrap_i64]; omega
                    have huw3 : wrap64 (u2 : Int) = (u2 : Int) := by have := HSm.out; unfold wrap64; omega
                    have HRE := Lib.hid (show false = readyP E y from by rw [HEd.out]; exact (ready_end HRDY.out).symm)
                    have HIv := Lib.hid hinv
                    clear hinv hun
                    cases hwp : wellP A y with
                    | false =>
                        have INV2 := Lib.hid (show PlaysK P E (i + 1) wl u2 from by have h := HIv.out; rw [hwp] at h; simpa using h)
                        have HPB := Lib.hid INV2.out.plan
                        have hMe : M.e = 160 := by rw [HMd.out]; unfold endM; rw [HRDY.out, hwp]; rfl
                        clear hwp
                        have HX := Lib.hid (HRd.out E ⟨pe, ae1, ce1, ae2, ce2, ae3, ce3, ae4, ce4⟩ y W7 false (INV2.out.room (by omega) HFew.out HCk.out.2.2.1.2 HMm.out) Hf11.out.world HRE.out)
                        simp only [Wv.val, Wv.cells] at HX
                        obtain ⟨⟨x10_c0, x10_c1, x10_c2, x10_c3, x10_c4, x10_c5, x10_c6, x10_c7, x10_c8, x10_c9, x10_c10, x10_c11, x10_c12⟩, x10_f0, x10_f1, x10_f2, x10_f3, x10_f4, x10_f5, x10_f6, x10_f7, x10_f8, x10_f9, x10_f10, x10_f11, x10_f12⟩ := boxes13 Hx10.out
                        obtain ⟨⟨x5_c0, x5_c1, x5_c2, x5_c3, x5_c4, x5_c5, x5_c6, x5_c7, x5_c8, x5_c9⟩, x5_f0, x5_f1, x5_f2, x5_f3, x5_f4, x5_f5, x5_f6, x5_f7, x5_f8, x5_f9⟩ := boxes10 Hx5.out
                        obtain ⟨⟨x11_c0, x11_c1, x11_c2, x11_c3, x11_c4, x11_c5, x11_c6, x11_c7, x11_c8, x11_c9⟩, x11_f0, x11_f1, x11_f2, x11_f3, x11_f4, x11_f5, x11_f6, x11_f7, x11_f8, x11_f9⟩ := boxes10 Hx11.out
                        obtain ⟨⟨x14_c0, x14_c1, x14_c2, x14_c3, x14_c4, x14_c5⟩, x14_f0, x14_f1, x14_f2, x14_f3, x14_f4, x14_f5⟩ := boxes6 Hx14.out
                        go_wp2_with fail
                        with_reducible refine HX.out.mono ?_
                        rintro e wK ⟨rfl, hb⟩
                        clear x10_c0 x10_c1 x10_c2 x10_c3 x10_c4 x10_c5 x10_c6 x10_c7 x10_c8 x10_c9 x10_c10 x10_c11 x10_c12 x10_f0 x10_f1 x10_f2 x10_f3 x10_f4 x10_f5 x10_f6 x10_f7 x10_f8 x10_f9 x10_f10 x10_f11 x10_f12 x5_c0 x5_c1 x5_c2 x5_c3 x5_c4 x5_c5 x5_c6 x5_c7 x5_c8 x5_c9 x5_f0 x5_f1 x5_f2 x5_f3 x5_f4 x5_f5 x5_f6 x5_f7 x5_f8 x5_f9 x11_c0 x11_c1 x11_c2 x11_c3 x11_c4 x11_c5 x11_c6 x11_c7 x11_c8 x11_c9 x11_f0 x11_f1 x11_f2 x11_f3 x11_f4 x11_f5 x11_f6 x11_f7 x11_f8 x11_f9 x14_c0 x14_c1 x14_c2 x14_c3 x14_c4 x14_c5 x14_f0 x14_f1 x14_f2 x14_f3 x14_f4 x14_f5
                        replace Hx2 := Lib.hid ((hb.block _ (lt_of_block Hx2.out)).trans Hx2.out)
                        replace Hx5 := Lib.hid ((hb.block _ (lt_of_block Hx5.out)).trans Hx5.out)
                        replace Hx10 := Lib.hid ((hb.block _ (lt_of_block Hx10.out)).trans Hx10.out)
                        replace Hx11 := Lib.hid ((hb.block _ (lt_of_block Hx11.out)).trans Hx11.out)
                        replace Hx14 := Lib.hid ((hb.block _ (lt_of_block Hx14.out)).trans Hx14.out)
                        replace Hf5 := Lib.hid (Hf5.out.below hb)
                        replace Hf11 := Lib.hid (Hf11.out.below hb)
                        replace HB := Lib.hid (HB.out.trans (hb.mono HB.out.size))
                        clear hb HX hMe
                        have Hrow := Lib.hid (Hf11.out.more (M := (fun b => b ∈ ([bx5] : List Nat))) (by intro b hb; simp only [List.mem_cons, List.not_mem_nil, or_false] at hb ⊢ <;> (first | omega | (right; omega))))
                        have Hro5 := Lib.hid (Hf5.out.more (M := (fun b => b ∈ ([bx5] : List Nat))) (by intro b hb; simp only [List.mem_cons, List.not_mem_nil, or_false] at hb ⊢ <;> (first | omega | (right; omega))))
                        go_wp2_with fail
                        go_meet
                        exact ⟨wl, u2, 0, E, pe, ae1, ce1, ae2, ce2, ae3, ce3, ae4, ce4, by first | rfl | go_num, by first | rfl | go_num, rfl, Lib.hid INV2.out, Lib.hid (fun h => absurd rfl h), Hrow, Hro5, Hx11, Hx5, Hx2, HB⟩
                    | true =>
                        have INV2 := Lib.hid (show PlaysK P E (i + 1) (wl + 1) u2 from by have h := HIv.out; rw [hwp] at h; simpa using h)
                        have HPB := Lib.hid INV2.out.plan
                        have hMe : M.e = 0 := by rw [HMd.out]; unfold endM; rw [HRDY.out, hwp]; rfl
                        have hMs : M.sock = (A.socks.length : Int) := by rw [HMd.out]; unfold endM; rw [HRDY.out, hwp]; rfl
                        have hww : IntKind.i64.wrap ((wl : Int) + 1) = (wl : Int) + 1 := by have := HSm.out; rw [IntKind.wrap_i64]; omega
                        clear hwp
                        have HX := Lib.hid (HRd.out E ⟨pe, ae1, ce1, ae2, ce2, ae3, ce3, ae4, ce4⟩ y W7 false (INV2.out.room (by omega) HFew.out HCk.out.2.2.1.2 HMm.out) Hf11.out.world HRE.out)
                        simp only [Wv.val, Wv.cells] at HX
                        obtain ⟨⟨x10_c0, x10_c1, x10_c2, x10_c3, x10_c4, x10_c5, x10_c6, x10_c7, x10_c8, x10_c9, x10_c10, x10_c11, x10_c12⟩, x10_f0, x10_f1, x10_f2, x10_f3, x10_f4, x10_f5, x10_f6, x10_f7, x10_f8, x10_f9, x10_f10, x10_f11, x10_f12⟩ := boxes13 Hx10.out
                        obtain ⟨⟨x5_c0, x5_c1, x5_c2, x5_c3, x5_c4, x5_c5, x5_c6, x5_c7, x5_c8, x5_c9⟩, x5_f0, x5_f1, x5_f2, x5_f3, x5_f4, x5_f5, x5_f6, x5_f7, x5_f8, x5_f9⟩ := boxes10 Hx5.out
                        obtain ⟨⟨x11_c0, x11_c1, x11_c2, x11_c3, x11_c4, x11_c5, x11_c6, x11_c7, x11_c8, x11_c9⟩, x11_f0, x11_f1, x11_f2, x11_f3, x11_f4, x11_f5, x11_f6, x11_f7, x11_f8, x11_f9⟩ := boxes10 Hx11.out
                        obtain ⟨⟨x14_c0, x14_c1, x14_c2, x14_c3, x14_c4, x14_c5⟩, x14_f0, x14_f1, x14_f2, x14_f3, x14_f4, x14_f5⟩ := boxes6 Hx14.out
                        go_wp2_with fail
                        with_reducible refine HX.out.mono ?_
                        rintro e wK ⟨rfl, hb⟩
                        clear x10_c0 x10_c1 x10_c2 x10_c3 x10_c4 x10_c5 x10_c6 x10_c7 x10_c8 x10_c9 x10_c10 x10_c11 x10_c12 x10_f0 x10_f1 x10_f2 x10_f3 x10_f4 x10_f5 x10_f6 x10_f7 x10_f8 x10_f9 x10_f10 x10_f11 x10_f12 x5_c0 x5_c1 x5_c2 x5_c3 x5_c4 x5_c5 x5_c6 x5_c7 x5_c8 x5_c9 x5_f0 x5_f1 x5_f2 x5_f3 x5_f4 x5_f5 x5_f6 x5_f7 x5_f8 x5_f9 x11_c0 x11_c1 x11_c2 x11_c3 x11_c4 x11_c5 x11_c6 x11_c7 x11_c8 x11_c9 x11_f0 x11_f1 x11_f2 x11_f3 x11_f4 x11_f5 x11_f6 x11_f7 x11_f8 x11_f9 x14_c0 x14_c1 x14_c2 x14_c3 x14_c4 x14_c5 x14_f0 x14_f1 x14_f2 x14_f3 x14_f4 x14_f5
                        replace Hx2 := Lib.hid ((hb.block _ (lt_of_block Hx2.out)).trans Hx2.out)
                        replace Hx5 := Lib.hid ((hb.block _ (lt_of_block Hx5.out)).trans Hx5.out)
                        replace Hx10 := Lib.hid ((hb.block _ (lt_of_block Hx10.out)).trans Hx10.out)
                        replace Hx11 := Lib.hid ((hb.block _ (lt_of_block Hx11.out)).trans Hx11.out)
                        replace Hx14 := Lib.hid ((hb.block _ (lt_of_block Hx14.out)).trans Hx14.out)
                        replace Hf5 := Lib.hid (Hf5.out.below hb)
                        replace Hf11 := Lib.hid (Hf11.out.below hb)
                        replace HB := Lib.hid (HB.out.trans (hb.mono HB.out.size))
                        clear hb HX hMe hMs
                        have Hrow := Lib.hid (Hf11.out.more (M := (fun b => b ∈ ([bx5] : List Nat))) (by intro b hb; simp only [List.mem_cons, List.not_mem_nil, or_false] at hb ⊢ <;> (first | omega | (right; omega))))
                        have Hro5 := Lib.hid (Hf5.out.more (M := (fun b => b ∈ ([bx5] : List Nat))) (by intro b hb; simp only [List.mem_cons, List.not_mem_nil, or_false] at hb ⊢ <;> (first | omega | (right; omega))))
                        go_wp2_with fail
                        go_meet
                        exact ⟨wl + 1, u2, 0, E, pe, ae1, ce1, ae2, ce2, ae3, ce3, ae4, ce4, by first | rfl | go_num, by first | rfl | go_num, rfl, Lib.hid INV2.out, Lib.hid (fun h => absurd rfl h), Hrow, Hro5, Hx11, Hx5, Hx2, HB⟩
              · obtain ⟨B, hB⟩ : ∃ X, X = shutP A n := ⟨_, rfl⟩
                obtain ⟨r, hr⟩ : ∃ X, X = shutE A n := ⟨_, rfl⟩
                obtain ⟨⟨x10_c0, x10_c1, x10_c2, x10_c3, x10_c4, x10_c5, x10_c6, x10_c7, x10_c8, x10_c9, x10_c10, x10_c11, x10_c12⟩, x10_f0, x10_f1, x10_f2, x10_f3, x10_f4, x10_f5, x10_f6, x10_f7, x10_f8, x10_f9, x10_f10, x10_f11, x10_f12⟩ := boxes13 Hx10.out
                obtain ⟨⟨x5_c0, x5_c1, x5_c2, x5_c3, x5_c4, x5_c5, x5_c6, x5_c7, x5_c8, x5_c9⟩, x5_f0, x5_f1, x5_f2, x5_f3, x5_f4, x5_f5, x5_f6, x5_f7, x5_f8, x5_f9⟩ := boxes10 Hx5.out
                obtain ⟨⟨x11_c0, x11_c1, x11_c2, x11_c3, x11_c4, x11_c5, x11_c6, x11_c7, x11_c8, x11_c9⟩, x11_f0, x11_f1, x11_f2, x11_f3, x11_f4, x11_f5, x11_f6, x11_f7, x11_f8, x11_f9⟩ := boxes10 Hx11.out
                have HX := Lib.hid (HSh.out (fun b => b ∈ ([bx5, bx10, bx11] : List Nat)) A ⟨p0, a1, c1, a2, c2, a3, c3, a4, c4⟩ n W4 B r (by have := lt_of_block Hx5.out; have := lt_of_block Hx10.out; have := lt_of_block Hx11.out; intro b hb; simp only [List.mem_cons, List.not_mem_nil, or_false] at hb <;> omega) HRm.out Hf5.out hB hr)
                try simp only [Wv.val, Wv.cells, Ad.v] at HX
                go_wp2_with fail
                with_reducible refine HX.out.mono ?_
                rintro e wE ⟨⟨pe, ae1, ce1, ae2, ce2, ae3, ce3, ae4, ce4⟩, rfl, hfl, hb⟩
                have HBd := Lib.hid hB
                have HRd2 := Lib.hid hr
                clear hB hr
                clear Hf11
                clear x10_c0 x10_c1 x10_c2 x10_c3 x10_c4 x10_c5 x10_c6 x10_c7 x10_c8 x10_c9 x10_c10 x10_c11 x10_c12 x10_f0 x10_f1 x10_f2 x10_f3 x10_f4 x10_f5 x10_f6 x10_f7 x10_f8 x10_f9 x10_f10 x10_f11 x10_f12 x5_c0 x5_c1 x5_c2 x5_c3 x5_c4 x5_c5 x5_c6 x5_c7 x5_c8 x5_c9 x5_f0 x5_f1 x5_f2 x5_f3 x5_f4 x5_f5 x5_f6 x5_f7 x5_f8 x5_f9 x11_c0 x11_c1 x11_c2 x11_c3 x11_c4 x11_c5 x11_c6 x11_c7 x11_c8 x11_c9 x11_f0 x11_f1 x11_f2 x11_f3 x11_f4 x11_f5 x11_f6 x11_f7 x11_f8 x11_f9
                replace Hx2 := Lib.hid ((hb.block _ (lt_of_block Hx2.out)).trans Hx2.out)
                replace Hx5 := Lib.hid ((hb.block _ (lt_of_block Hx5.out)).trans Hx5.out)
                replace Hx10 := Lib.hid ((hb.block _ (lt_of_block Hx10.out)).trans Hx10.out)
                replace Hx11 := Lib.hid ((hb.block _ (lt_of_block Hx11.out)).trans Hx11.out)
                replace Hf5 := Lib.hid (Hf5.out.below hb)
                replace HB := Lib.hid (HB.out.trans (hb.mono HB.out.size))
                replace Hf11 := Lib.hid hfl
                clear hb hfl HX
                simp only [Wv.val, Wv.cells, Lt.v]
                obtain ⟨⟨x5_c0, x5_c1, x5_c2, x5_c3, x5_c4, x5_c5, x5_c6, x5_c7, x5_c8, x5_c9⟩, x5_f0, x5_f1, x5_f2, x5_f3, x5_f4, x5_f5, x5_f6, x5_f7, x5_f8, x5_f9⟩ := boxes10 Hx5.out
                obtain ⟨⟨x11_c0, x11_c1, x11_c2, x11_c3, x11_c4, x11_c5, x11_c6, x11_c7, x11_c8, x11_c9⟩, x11_f0, x11_f1, x11_f2, x11_f3, x11_f4, x11_f5, x11_f6, x11_f7, x11_f8, x11_f9⟩ := boxes10 Hx11.out
                go_upto_region 39 with fail
                clear x5_c0 x5_c1 x5_c2 x5_c3 x5_c4 x5_c5 x5_c6 x5_c7 x5_c8 x5_c9 x5_f0 x5_f1 x5_f2 x5_f3 x5_f4 x5_f5 x5_f6 x5_f7 x5_f8 x5_f9 x11_c0 x11_c1 x11_c2 x11_c3 x11_c4 x11_c5 x11_c6 x11_c7 x11_c8 x11_c9 x11_f0 x11_f1 x11_f2 x11_f3 x11_f4 x11_f5 x11_f6 x11_f7 x11_f8 x11_f9
                obtain ⟨W5, hW5⟩ : ∃ X, X = set10 wE bx11 (.slice pe.za B.plan.zones.length pe.zc) (.slice pe.fa B.plan.fates.length pe.fc) (.int .i64 B.plan.ticks) (.slice pe.da B.plan.drops.length pe.dc) (.int .i64 B.clock) (.slice ae1 B.socks.length ce1) (.slice ae2 B.dials.length ce2) (.slice ae3 B.looks.length ce3) (.int .i64 B.dropped) (.slice ae4 B.marks.length ce4) := ⟨_, rfl⟩
                have hqx11 := set10_at Hx11.out (.slice pe.za B.plan.zones.length pe.zc) (.slice pe.fa B.plan.fates.length pe.fc) (.int .i64 B.plan.ticks) (.slice pe.da B.plan.drops.length pe.dc) (.int .i64 B.clock) (.slice ae1 B.socks.length ce1) (.slice ae2 B.dials.length ce2) (.slice ae3 B.looks.length ce3) (.int .i64 B.dropped) (.slice ae4 B.marks.length ce4)
                have hb := set10_below HB.out hgex11 (.slice pe.za B.plan.zones.length pe.zc) (.slice pe.fa B.plan.fates.length pe.fc) (.int .i64 B.plan.ticks) (.slice pe.da B.plan.drops.length pe.dc) (.int .i64 B.clock) (.slice ae1 B.socks.length ce1) (.slice ae2 B.dials.length ce2) (.slice ae3 B.looks.length ce3) (.int .i64 B.dropped) (.slice ae4 B.marks.length ce4)
                have hqx2 := (set10_other wE bx11 bx2 (.slice pe.za B.plan.zones.length pe.zc) (.slice pe.fa B.plan.fates.length pe.fc) (.int .i64 B.plan.ticks) (.slice pe.da B.plan.drops.length pe.dc) (.int .i64 B.clock) (.slice ae1 B.socks.length ce1) (.slice ae2 B.dials.length ce2) (.slice ae3 B.looks.length ce3) (.int .i64 B.dropped) (.slice ae4 B.marks.length ce4) (by omega)).trans Hx2.out
                have hqx5 := (set10_other wE bx11 bx5 (.slice pe.za B.plan.zones.length pe.zc) (.slice pe.fa B.plan.fates.length pe.fc) (.int .i64 B.plan.ticks) (.slice pe.da B.plan.drops.length pe.dc) (.int .i64 B.clock) (.slice ae1 B.socks.length ce1) (.slice ae2 B.dials.length ce2) (.slice ae3 B.looks.length ce3) (.int .i64 B.dropped) (.slice ae4 B.marks.length ce4) (by omega)).trans Hx5.out
                have hqx10 := (set10_other wE bx11 bx10 (.slice pe.za B.plan.zones.length pe.zc) (.slice pe.fa B.plan.fates.length pe.fc) (.int .i64 B.plan.ticks) (.slice pe.da B.plan.drops.length pe.dc) (.int .i64 B.clock) (.slice ae1 B.socks.length ce1) (.slice ae2 B.dials.length ce2) (.slice ae3 B.looks.length ce3) (.int .i64 B.dropped) (.slice ae4 B.marks.length ce4) (by omega)).trans Hx10.out
                have hqf5 := set10_flat (b := bx11) Hf5.out (by simp) (.slice pe.za B.plan.zones.length pe.zc) (.slice pe.fa B.plan.fates.length pe.fc) (.int .i64 B.plan.ticks) (.slice pe.da B.plan.drops.length pe.dc) (.int .i64 B.clock) (.slice ae1 B.socks.length ce1) (.slice ae2 B.dials.length ce2) (.slice ae3 B.looks.length ce3) (.int .i64 B.dropped) (.slice ae4 B.marks.length ce4)
                have hqf11 := set10_flat (b := bx11) Hf11.out (by simp) (.slice pe.za B.plan.zones.length pe.zc) (.slice pe.fa B.plan.fates.length pe.fc) (.int .i64 B.plan.ticks) (.slice pe.da B.plan.drops.length pe.dc) (.int .i64 B.clock) (.slice ae1 B.socks.length ce1) (.slice ae2 B.dials.length ce2) (.slice ae3 B.looks.length ce3) (.int .i64 B.dropped) (.slice ae4 B.marks.length ce4)
                rw [← hW5] at hqx11 hb hqx2 hqx5 hqx10 hqf5 hqf11
                unfold set10 at hW5
                rw [← hW5]
                clear hW5
                replace HB := Lib.hid hb
                replace Hx2 := Lib.hid hqx2
                replace Hx5 := Lib.hid hqx5
                replace Hx10 := Lib.hid hqx10
                replace Hx11 := Lib.hid hqx11
                replace Hf5 := Lib.hid hqf5
                replace Hf11 := Lib.hid hqf11
                clear hqx11 hb hqx2 hqx5 hqx10 hqf5 hqf11
                have Hrow := Lib.hid (Hf11.out.more (M := (fun b => b ∈ ([bx5] : List Nat))) (by intro b hb; simp only [List.mem_cons, List.not_mem_nil, or_false] at hb ⊢ <;> (first | omega | (right; omega))))
                have Hro5 := Lib.hid (Hf5.out.more (M := (fun b => b ∈ ([bx5] : List Nat))) (by intro b hb; simp only [List.mem_cons, List.not_mem_nil, or_false] at hb ⊢ <;> (first | omega | (right; omega))))
                go_wp2_with fail
                go_meet
                exact ⟨wl, un, r, B, pe, ae1, ce1, ae2, ce2, ae3, ce3, ae4, ce4, by first | rfl | go_num, by first | rfl | go_num, rfl, Lib.hid (by rw [HBd.out]; exact invk_shut HI.out (by omega) n), Lib.hid (shut_same HBd.out HRd2.out), Hrow, Hro5, Hx11, Hx5, Hx2, HB⟩
              · have hq0 : (d == 0) = false := by simp [hd0]
                have hq1 : (d == 1) = false := by simp [hd1]
                have hq2 : (d == 2) = false := by simp [hd2]
                have hq3 : (d == 3) = false := by simp [hd3]
                have hq4 : (d == 4) = false := by simp [hd4]
                have hq5 : (d == 5) = false := by simp [hd5]
                have INV2 := Lib.hid HI.out.more
                have HPB := HPA
                obtain ⟨⟨x10_c0, x10_c1, x10_c2, x10_c3, x10_c4, x10_c5, x10_c6, x10_c7, x10_c8, x10_c9, x10_c10, x10_c11, x10_c12⟩, x10_f0, x10_f1, x10_f2, x10_f3, x10_f4, x10_f5, x10_f6, x10_f7, x10_f8, x10_f9, x10_f10, x10_f11, x10_f12⟩ := boxes13 Hx10.out
                obtain ⟨⟨x5_c0, x5_c1, x5_c2, x5_c3, x5_c4, x5_c5, x5_c6, x5_c7, x5_c8, x5_c9⟩, x5_f0, x5_f1, x5_f2, x5_f3, x5_f4, x5_f5, x5_f6, x5_f7, x5_f8, x5_f9⟩ := boxes10 Hx5.out
                obtain ⟨⟨x11_c0, x11_c1, x11_c2, x11_c3, x11_c4, x11_c5, x11_c6, x11_c7, x11_c8, x11_c9⟩, x11_f0, x11_f1, x11_f2, x11_f3, x11_f4, x11_f5, x11_f6, x11_f7, x11_f8, x11_f9⟩ := boxes10 Hx11.out
                have Hrow := Lib.hid (Hf11.out.more (M := (fun b => b ∈ ([bx5] : List Nat))) (by intro b hb; simp only [List.mem_cons, List.not_mem_nil, or_false] at hb ⊢ <;> (first | omega | (right; omega))))
                have Hro5 := Lib.hid (Hf5.out.more (M := (fun b => b ∈ ([bx5] : List Nat))) (by intro b hb; simp only [List.mem_cons, List.not_mem_nil, or_false] at hb ⊢ <;> (first | omega | (right; omega))))
                go_wp2_with fail
                go_meet
                exact ⟨wl, un, 0, A, p0, a1, c1, a2, c2, a3, c3, a4, c4, by first | rfl | go_num, by first | rfl | go_num, rfl, Lib.hid HI.out.more, Lib.hid (fun h => absurd rfl h), Hrow, Hro5, Hx11, Hx5, Hx2, HB⟩
            case rest =>
                clear HI Hf5 Hx5 Hx2 HB Hf11 Hx11 Hx10
                obtain ⟨wl2, un2, r, B, pm, am1, cm1, am2, cm2, am3, cm3, am4, cm4, rfl, rfl, rfl, INV2, HSame, Hf11, Hf5, Hx11, Hx5, Hx2, HB⟩ := hcut
                have HPB := Lib.hid INV2.out.plan
                by_cases hr0 : r = 0
                · subst hr0
                  clear HSame HPA HRm
                  obtain ⟨⟨x5_c0, x5_c1, x5_c2, x5_c3, x5_c4, x5_c5, x5_c6, x5_c7, x5_c8, x5_c9⟩, x5_f0, x5_f1, x5_f2, x5_f3, x5_f4, x5_f5, x5_f6, x5_f7, x5_f8, x5_f9⟩ := boxes10 Hx5.out
                  obtain ⟨⟨x11_c0, x11_c1, x11_c2, x11_c3, x11_c4, x11_c5, x11_c6, x11_c7, x11_c8, x11_c9⟩, x11_f0, x11_f1, x11_f2, x11_f3, x11_f4, x11_f5, x11_f6, x11_f7, x11_f8, x11_f9⟩ := boxes10 Hx11.out
                  go_upto_region 42 with fail
                  clear x5_c0 x5_c1 x5_c2 x5_c3 x5_c4 x5_c5 x5_c6 x5_c7 x5_c8 x5_c9 x5_f0 x5_f1 x5_f2 x5_f3 x5_f4 x5_f5 x5_f6 x5_f7 x5_f8 x5_f9 x11_c0 x11_c1 x11_c2 x11_c3 x11_c4 x11_c5 x11_c6 x11_c7 x11_c8 x11_c9 x11_f0 x11_f1 x11_f2 x11_f3 x11_f4 x11_f5 x11_f6 x11_f7 x11_f8 x11_f9
                  obtain ⟨W5, hW5⟩ : ∃ X, X = set10 wc bx5 (.slice pm.za B.plan.zones.length pm.zc) (.slice pm.fa B.plan.fates.length pm.fc) (.int .i64 B.plan.ticks) (.slice pm.da B.plan.drops.length pm.dc) (.int .i64 B.clock) (.slice am1 B.socks.length cm1) (.slice am2 B.dials.length cm2) (.slice am3 B.looks.length cm3) (.int .i64 B.dropped) (.slice am4 B.marks.length cm4) := ⟨_, rfl⟩
                  have hqx5 := set10_at Hx5.out (.slice pm.za B.plan.zones.length pm.zc) (.slice pm.fa B.plan.fates.length pm.fc) (.int .i64 B.plan.ticks) (.slice pm.da B.plan.drops.length pm.dc) (.int .i64 B.clock) (.slice am1 B.socks.length cm1) (.slice am2 B.dials.length cm2) (.slice am3 B.looks.length cm3) (.int .i64 B.dropped) (.slice am4 B.marks.length cm4)
                  have hb := set10_below HB.out hgex5 (.slice pm.za B.plan.zones.length pm.zc) (.slice pm.fa B.plan.fates.length pm.fc) (.int .i64 B.plan.ticks) (.slice pm.da B.plan.drops.length pm.dc) (.int .i64 B.clock) (.slice am1 B.socks.length cm1) (.slice am2 B.dials.length cm2) (.slice am3 B.looks.length cm3) (.int .i64 B.dropped) (.slice am4 B.marks.length cm4)
                  have hqx2 := (set10_other wc bx5 bx2 (.slice pm.za B.plan.zones.length pm.zc) (.slice pm.fa B.plan.fates.length pm.fc) (.int .i64 B.plan.ticks) (.slice pm.da B.plan.drops.length pm.dc) (.int .i64 B.clock) (.slice am1 B.socks.length cm1) (.slice am2 B.dials.length cm2) (.slice am3 B.looks.length cm3) (.int .i64 B.dropped) (.slice am4 B.marks.length cm4) (by omega)).trans Hx2.out
                  have hqx11 := (set10_other wc bx5 bx11 (.slice pm.za B.plan.zones.length pm.zc) (.slice pm.fa B.plan.fates.length pm.fc) (.int .i64 B.plan.ticks) (.slice pm.da B.plan.drops.length pm.dc) (.int .i64 B.clock) (.slice am1 B.socks.length cm1) (.slice am2 B.dials.length cm2) (.slice am3 B.looks.length cm3) (.int .i64 B.dropped) (.slice am4 B.marks.length cm4) (by omega)).trans Hx11.out
                  have hqf5 := set10_flat (b := bx5) Hf5.out (by simp) (.slice pm.za B.plan.zones.length pm.zc) (.slice pm.fa B.plan.fates.length pm.fc) (.int .i64 B.plan.ticks) (.slice pm.da B.plan.drops.length pm.dc) (.int .i64 B.clock) (.slice am1 B.socks.length cm1) (.slice am2 B.dials.length cm2) (.slice am3 B.looks.length cm3) (.int .i64 B.dropped) (.slice am4 B.marks.length cm4)
                  have hqf11 := set10_flat (b := bx5) Hf11.out (by simp) (.slice pm.za B.plan.zones.length pm.zc) (.slice pm.fa B.plan.fates.length pm.fc) (.int .i64 B.plan.ticks) (.slice pm.da B.plan.drops.length pm.dc) (.int .i64 B.clock) (.slice am1 B.socks.length cm1) (.slice am2 B.dials.length cm2) (.slice am3 B.looks.length cm3) (.int .i64 B.dropped) (.slice am4 B.marks.length cm4)
                  rw [← hW5] at hqx5 hb hqx2 hqx11 hqf5 hqf11
                  unfold set10 at hW5
                  rw [← hW5]
                  clear hW5
                  replace HB := Lib.hid hb
                  replace Hx2 := Lib.hid hqx2
                  replace Hx5 := Lib.hid hqx5
                  replace Hx11 := Lib.hid hqx11
                  replace Hf5 := Lib.hid hqf5
                  replace Hf11 := Lib.hid hqf11
                  clear hqx5 hb hqx2 hqx11 hqf5 hqf11
                  have HX := Lib.hid (check8 B.socks B.marks am1 am4 cm1 cm4 W5 INV2.out.goes (by have := INV2.out.lens; have := goes_few INV2.out.goes; omega) (by have := INV2.out.lens; omega) Hf11.out.socks.1 Hf11.out.marks.1)
                  obtain ⟨⟨x5_c0, x5_c1, x5_c2, x5_c3, x5_c4, x5_c5, x5_c6, x5_c7, x5_c8, x5_c9⟩, x5_f0, x5_f1, x5_f2, x5_f3, x5_f4, x5_f5, x5_f6, x5_f7, x5_f8, x5_f9⟩ := boxes10 Hx5.out
                  go_wp2_with fail
                  with_reducible refine HX.out.mono ?_
                  rintro e wT ⟨rfl, hb⟩
                  clear x5_c0 x5_c1 x5_c2 x5_c3 x5_c4 x5_c5 x5_c6 x5_c7 x5_c8 x5_c9 x5_f0 x5_f1 x5_f2 x5_f3 x5_f4 x5_f5 x5_f6 x5_f7 x5_f8 x5_f9
                  replace Hx2 := Lib.hid ((hb.block _ (lt_of_block Hx2.out)).trans Hx2.out)
                  replace Hx5 := Lib.hid ((hb.block _ (lt_of_block Hx5.out)).trans Hx5.out)
                  replace Hx11 := Lib.hid ((hb.block _ (lt_of_block Hx11.out)).trans Hx11.out)
                  replace Hf5 := Lib.hid (Hf5.out.below hb)
                  replace Hf11 := Lib.hid (Hf11.out.below hb)
                  replace HB := Lib.hid (HB.out.trans (hb.mono HB.out.size))
                  clear hb HX
                  have hwl := INV2.out.well_
                  have hwb : ((B.socks.length : Int) != (wl2 : Int)) = false := by rw [hwl]; simp
                  clear hwl
                  have HX := Lib.hid (HUn.out B ⟨pm, am1, cm1, am2, cm2, am3, cm3, am4, cm4⟩ wT (un2 : Int) (INV2.out.room (by omega) HFew.out HCk.out.2.2.1.2 HMm.out) INV2.out.oks Hf11.out.world (by rw [under_nil, INV2.out.under_]))
                  simp only [Wv.val, Wv.cells] at HX
                  obtain ⟨⟨x5_c0, x5_c1, x5_c2, x5_c3, x5_c4, x5_c5, x5_c6, x5_c7, x5_c8, x5_c9⟩, x5_f0, x5_f1, x5_f2, x5_f3, x5_f4, x5_f5, x5_f6, x5_f7, x5_f8, x5_f9⟩ := boxes10 Hx5.out
                  go_wp2_with fail
                  with_reducible refine HX.out.mono ?_
                  rintro e wU ⟨rfl, hb⟩
                  clear x5_c0 x5_c1 x5_c2 x5_c3 x5_c4 x5_c5 x5_c6 x5_c7 x5_c8 x5_c9 x5_f0 x5_f1 x5_f2 x5_f3 x5_f4 x5_f5 x5_f6 x5_f7 x5_f8 x5_f9
                  replace Hx2 := Lib.hid ((hb.block _ (lt_of_block Hx2.out)).trans Hx2.out)
                  replace Hx5 := Lib.hid ((hb.block _ (lt_of_block Hx5.out)).trans Hx5.out)
                  replace Hx11 := Lib.hid ((hb.block _ (lt_of_block Hx11.out)).trans Hx11.out)
                  replace Hf5 := Lib.hid (Hf5.out.below hb)
                  replace Hf11 := Lib.hid (Hf11.out.below hb)
                  replace HB := Lib.hid (HB.out.trans (hb.mono HB.out.size))
                  clear hb HX hwb
                  have hc0 : ¬ B.clock < 0 := by have := INV2.out.cl; omega
                  have hc1 : ¬ B.plan.ticks < B.clock := by have := INV2.out.cl; rw [HPB.out]; omega
                  have Hrow := Lib.hid (Hf11.out.more (M := (fun b => b ∈ ([bx5] : List Nat))) (by intro b hb; simp only [List.mem_cons, List.not_mem_nil, or_false] at hb ⊢ <;> (first | omega | (right; omega))))
                  obtain ⟨⟨x5_c0, x5_c1, x5_c2, x5_c3, x5_c4, x5_c5, x5_c6, x5_c7, x5_c8, x5_c9⟩, x5_f0, x5_f1, x5_f2, x5_f3, x5_f4, x5_f5, x5_f6, x5_f7, x5_f8, x5_f9⟩ := boxes10 Hx5.out
                  go_wp2_with fail
                  go_roundw
                  case rel => exact ⟨i + 1, wl2, un2, B, pm, am1, cm1, am2, cm2, am3, cm3, am4, cm4, by first | rfl | go_num, by first | rfl | go_num, by go_num, by omega, INV2, Hrow, Hx5, Hx2, HB⟩
                  case measure => simp [intOf]; omega
                · have hBA := HSame.out hr0
                  clear HSame HPA HRm
                  subst hBA
                  have hrb : (r != 0) = true := by simp [hr0]
                  have HX := Lib.hid (world_same B ⟨pm, am1, cm1, am2, cm2, am3, cm3, am4, cm4⟩ ⟨p0, a1, c1, a2, c2, a3, c3, a4, c4⟩ wc (by rw [HPB.out]; exact HFF.out) Hf11.out.world Hf5.out.world)
                  simp only [Wv.val, Wv.cells] at HX
                  obtain ⟨⟨x5_c0, x5_c1, x5_c2, x5_c3, x5_c4, x5_c5, x5_c6, x5_c7, x5_c8, x5_c9⟩, x5_f0, x5_f1, x5_f2, x5_f3, x5_f4, x5_f5, x5_f6, x5_f7, x5_f8, x5_f9⟩ := boxes10 Hx5.out
                  obtain ⟨⟨x11_c0, x11_c1, x11_c2, x11_c3, x11_c4, x11_c5, x11_c6, x11_c7, x11_c8, x11_c9⟩, x11_f0, x11_f1, x11_f2, x11_f3, x11_f4, x11_f5, x11_f6, x11_f7, x11_f8, x11_f9⟩ := boxes10 Hx11.out
                  go_wp2_with fail
                  with_reducible refine HX.out.mono ?_
                  rintro e wS ⟨rfl, hb⟩
                  clear x5_c0 x5_c1 x5_c2 x5_c3 x5_c4 x5_c5 x5_c6 x5_c7 x5_c8 x5_c9 x5_f0 x5_f1 x5_f2 x5_f3 x5_f4 x5_f5 x5_f6 x5_f7 x5_f8 x5_f9 x11_c0 x11_c1 x11_c2 x11_c3 x11_c4 x11_c5 x11_c6 x11_c7 x11_c8 x11_c9 x11_f0 x11_f1 x11_f2 x11_f3 x11_f4 x11_f5 x11_f6 x11_f7 x11_f8 x11_f9
                  replace Hx2 := Lib.hid ((hb.block _ (lt_of_block Hx2.out)).trans Hx2.out)
                  replace Hx5 := Lib.hid ((hb.block _ (lt_of_block Hx5.out)).trans Hx5.out)
                  replace Hx11 := Lib.hid ((hb.block _ (lt_of_block Hx11.out)).trans Hx11.out)
                  replace Hf5 := Lib.hid (Hf5.out.below hb)
                  replace Hf11 := Lib.hid (Hf11.out.below hb)
                  replace HB := Lib.hid (HB.out.trans (hb.mono HB.out.size))
                  clear hb HX
                  obtain ⟨⟨x5_c0, x5_c1, x5_c2, x5_c3, x5_c4, x5_c5, x5_c6, x5_c7, x5_c8, x5_c9⟩, x5_f0, x5_f1, x5_f2, x5_f3, x5_f4, x5_f5, x5_f6, x5_f7, x5_f8, x5_f9⟩ := boxes10 Hx5.out
                  obtain ⟨⟨x11_c0, x11_c1, x11_c2, x11_c3, x11_c4, x11_c5, x11_c6, x11_c7, x11_c8, x11_c9⟩, x11_f0, x11_f1, x11_f2, x11_f3, x11_f4, x11_f5, x11_f6, x11_f7, x11_f8, x11_f9⟩ := boxes10 Hx11.out
                  go_upto_region 42 with fail
                  clear x5_c0 x5_c1 x5_c2 x5_c3 x5_c4 x5_c5 x5_c6 x5_c7 x5_c8 x5_c9 x5_f0 x5_f1 x5_f2 x5_f3 x5_f4 x5_f5 x5_f6 x5_f7 x5_f8 x5_f9 x11_c0 x11_c1 x11_c2 x11_c3 x11_c4 x11_c5 x11_c6 x11_c7 x11_c8 x11_c9 x11_f0 x11_f1 x11_f2 x11_f3 x11_f4 x11_f5 x11_f6 x11_f7 x11_f8 x11_f9
                  obtain ⟨W5, hW5⟩ : ∃ X, X = set10 wS bx5 (.slice pm.za B.plan.zones.length pm.zc) (.slice pm.fa B.plan.fates.length pm.fc) (.int .i64 B.plan.ticks) (.slice pm.da B.plan.drops.length pm.dc) (.int .i64 B.clock) (.slice am1 B.socks.length cm1) (.slice am2 B.dials.length cm2) (.slice am3 B.looks.length cm3) (.int .i64 B.dropped) (.slice am4 B.marks.length cm4) := ⟨_, rfl⟩
                  have hqx5 := set10_at Hx5.out (.slice pm.za B.plan.zones.length pm.zc) (.slice pm.fa B.plan.fates.length pm.fc) (.int .i64 B.plan.ticks) (.slice pm.da B.plan.drops.length pm.dc) (.int .i64 B.clock) (.slice am1 B.socks.length cm1) (.slice am2 B.dials.length cm2) (.slice am3 B.looks.length cm3) (.int .i64 B.dropped) (.slice am4 B.marks.length cm4)
                  have hb := set10_below HB.out hgex5 (.slice pm.za B.plan.zones.length pm.zc) (.slice pm.fa B.plan.fates.length pm.fc) (.int .i64 B.plan.ticks) (.slice pm.da B.plan.drops.length pm.dc) (.int .i64 B.clock) (.slice am1 B.socks.length cm1) (.slice am2 B.dials.length cm2) (.slice am3 B.looks.length cm3) (.int .i64 B.dropped) (.slice am4 B.marks.length cm4)
                  have hqx2 := (set10_other wS bx5 bx2 (.slice pm.za B.plan.zones.length pm.zc) (.slice pm.fa B.plan.fates.length pm.fc) (.int .i64 B.plan.ticks) (.slice pm.da B.plan.drops.length pm.dc) (.int .i64 B.clock) (.slice am1 B.socks.length cm1) (.slice am2 B.dials.length cm2) (.slice am3 B.looks.length cm3) (.int .i64 B.dropped) (.slice am4 B.marks.length cm4) (by omega)).trans Hx2.out
                  have hqx11 := (set10_other wS bx5 bx11 (.slice pm.za B.plan.zones.length pm.zc) (.slice pm.fa B.plan.fates.length pm.fc) (.int .i64 B.plan.ticks) (.slice pm.da B.plan.drops.length pm.dc) (.int .i64 B.clock) (.slice am1 B.socks.length cm1) (.slice am2 B.dials.length cm2) (.slice am3 B.looks.length cm3) (.int .i64 B.dropped) (.slice am4 B.marks.length cm4) (by omega)).trans Hx11.out
                  have hqf5 := set10_flat (b := bx5) Hf5.out (by simp) (.slice pm.za B.plan.zones.length pm.zc) (.slice pm.fa B.plan.fates.length pm.fc) (.int .i64 B.plan.ticks) (.slice pm.da B.plan.drops.length pm.dc) (.int .i64 B.clock) (.slice am1 B.socks.length cm1) (.slice am2 B.dials.length cm2) (.slice am3 B.looks.length cm3) (.int .i64 B.dropped) (.slice am4 B.marks.length cm4)
                  have hqf11 := set10_flat (b := bx5) Hf11.out (by simp) (.slice pm.za B.plan.zones.length pm.zc) (.slice pm.fa B.plan.fates.length pm.fc) (.int .i64 B.plan.ticks) (.slice pm.da B.plan.drops.length pm.dc) (.int .i64 B.clock) (.slice am1 B.socks.length cm1) (.slice am2 B.dials.length cm2) (.slice am3 B.looks.length cm3) (.int .i64 B.dropped) (.slice am4 B.marks.length cm4)
                  rw [← hW5] at hqx5 hb hqx2 hqx11 hqf5 hqf11
                  unfold set10 at hW5
                  rw [← hW5]
                  clear hW5
                  replace HB := Lib.hid hb
                  replace Hx2 := Lib.hid hqx2
                  replace Hx5 := Lib.hid hqx5
                  replace Hx11 := Lib.hid hqx11
                  replace Hf5 := Lib.hid hqf5
                  replace Hf11 := Lib.hid hqf11
                  clear hqx5 hb hqx2 hqx11 hqf5 hqf11
                  have HX := Lib.hid (check8 B.socks B.marks am1 am4 cm1 cm4 W5 INV2.out.goes (by have := INV2.out.lens; have := goes_few INV2.out.goes; omega) (by have := INV2.out.lens; omega) Hf11.out.socks.1 Hf11.out.marks.1)
                  obtain ⟨⟨x5_c0, x5_c1, x5_c2, x5_c3, x5_c4, x5_c5, x5_c6, x5_c7, x5_c8, x5_c9⟩, x5_f0, x5_f1, x5_f2, x5_f3, x5_f4, x5_f5, x5_f6, x5_f7, x5_f8, x5_f9⟩ := boxes10 Hx5.out
                  go_wp2_with fail
                  with_reducible refine HX.out.mono ?_
                  rintro e wT ⟨rfl, hb⟩
                  clear x5_c0 x5_c1 x5_c2 x5_c3 x5_c4 x5_c5 x5_c6 x5_c7 x5_c8 x5_c9 x5_f0 x5_f1 x5_f2 x5_f3 x5_f4 x5_f5 x5_f6 x5_f7 x5_f8 x5_f9
                  replace Hx2 := Lib.hid ((hb.block _ (lt_of_block Hx2.out)).trans Hx2.out)
                  replace Hx5 := Lib.hid ((hb.block _ (lt_of_block Hx5.out)).trans Hx5.out)
                  replace Hx11 := Lib.hid ((hb.block _ (lt_of_block Hx11.out)).trans Hx11.out)
                  replace Hf5 := Lib.hid (Hf5.out.below hb)
                  replace Hf11 := Lib.hid (Hf11.out.below hb)
                  replace HB := Lib.hid (HB.out.trans (hb.mono HB.out.size))
                  clear hb HX
                  have hwl := INV2.out.well_
                  have hwb : ((B.socks.length : Int) != (wl2 : Int)) = false := by rw [hwl]; simp
                  clear hwl
                  have HX := Lib.hid (HUn.out B ⟨pm, am1, cm1, am2, cm2, am3, cm3, am4, cm4⟩ wT (un2 : Int) (INV2.out.room (by omega) HFew.out HCk.out.2.2.1.2 HMm.out) INV2.out.oks Hf11.out.world (by rw [under_nil, INV2.out.under_]))
                  simp only [Wv.val, Wv.cells] at HX
                  obtain ⟨⟨x5_c0, x5_c1, x5_c2, x5_c3, x5_c4, x5_c5, x5_c6, x5_c7, x5_c8, x5_c9⟩, x5_f0, x5_f1, x5_f2, x5_f3, x5_f4, x5_f5, x5_f6, x5_f7, x5_f8, x5_f9⟩ := boxes10 Hx5.out
                  go_wp2_with fail
                  with_reducible refine HX.out.mono ?_
                  rintro e wU ⟨rfl, hb⟩
                  clear x5_c0 x5_c1 x5_c2 x5_c3 x5_c4 x5_c5 x5_c6 x5_c7 x5_c8 x5_c9 x5_f0 x5_f1 x5_f2 x5_f3 x5_f4 x5_f5 x5_f6 x5_f7 x5_f8 x5_f9
                  replace Hx2 := Lib.hid ((hb.block _ (lt_of_block Hx2.out)).trans Hx2.out)
                  replace Hx5 := Lib.hid ((hb.block _ (lt_of_block Hx5.out)).trans Hx5.out)
                  replace Hx11 := Lib.hid ((hb.block _ (lt_of_block Hx11.out)).trans Hx11.out)
                  replace Hf5 := Lib.hid (Hf5.out.below hb)
                  replace Hf11 := Lib.hid (Hf11.out.below hb)
                  replace HB := Lib.hid (HB.out.trans (hb.mono HB.out.size))
                  clear hb HX hwb
                  have hc0 : ¬ B.clock < 0 := by have := INV2.out.cl; omega
                  have hc1 : ¬ B.plan.ticks < B.clock := by have := INV2.out.cl; rw [HPB.out]; omega
                  have Hrow := Lib.hid (Hf11.out.more (M := (fun b => b ∈ ([bx5] : List Nat))) (by intro b hb; simp only [List.mem_cons, List.not_mem_nil, or_false] at hb ⊢ <;> (first | omega | (right; omega))))
                  obtain ⟨⟨x5_c0, x5_c1, x5_c2, x5_c3, x5_c4, x5_c5, x5_c6, x5_c7, x5_c8, x5_c9⟩, x5_f0, x5_f1, x5_f2, x5_f3, x5_f4, x5_f5, x5_f6, x5_f7, x5_f8, x5_f9⟩ := boxes10 Hx5.out
                  go_wp2_with fail
                  go_roundw
                  case rel => exact ⟨i + 1, wl2, un2, B, pm, am1, cm1, am2, cm2, am3, cm3, am4, cm4, by first | rfl | go_num, by first | rfl | go_num, by go_num, by omega, INV2, Hrow, Hx5, Hx2, HB⟩
                  case measure => simp [intOf]; omega
          · obtain rfl : i = L.length := by omega
            go_wp2_with fail
            with_reducible refine (HWk.out _).mono ?_
            rintro e wf ⟨rfl, hb⟩
            have HBf := Lib.hid (HB.out.trans (hb.mono HB.out.size))
            clear hb
            go_wp2_with fail
            go_ret
            exact ⟨rfl, HBf.out⟩
  · obtain ⟨h1, h2⟩ := new_no hck
    obtain ⟨⟨x2_c0, x2_c1, x2_c2, x2_c3⟩, x2_f0, x2_f1, x2_f2, x2_f3⟩ := box4 Hx2.out
    have HX := Lib.hid (HN0.out (fun b => b ∈ ([] : List Nat)) W1 _ _ (by intro b hb; simp only [List.mem_cons, List.not_mem_nil, or_false] at hb <;> omega) (HPL.out W1 HB.out) h1 h2)
    try simp only [Wv.val, Wv.cells, Ad.v] at HX
    go_wp2_with fail
    with_reducible refine HX.out.mono ?_
    rintro e wA ⟨⟨p1, a11, c11, a12, c12, a13, c13, a14, c14⟩, rfl, hfl, hb⟩
    clear h1 h2
    clear x2_c0 x2_c1 x2_c2 x2_c3 x2_f0 x2_f1 x2_f2 x2_f3
    replace Hx2 := Lib.hid ((hb.block _ (lt_of_block Hx2.out)).trans Hx2.out)
    replace HB := Lib.hid (HB.out.trans (hb.mono HB.out.size))
    replace Hf5 := Lib.hid hfl
    clear hb hfl HX
    simp only [Wv.val, Wv.cells, Lt.v]
    obtain ⟨⟨x2_c0, x2_c1, x2_c2, x2_c3⟩, x2_f0, x2_f1, x2_f2, x2_f3⟩ := box4 Hx2.out
    go_upto_region 2 with fail
    clear x2_c0 x2_c1 x2_c2 x2_c3 x2_f0 x2_f1 x2_f2 x2_f3
    obtain ⟨bx5, hdx5⟩ : ∃ b, b = wA.heap.size := ⟨_, rfl⟩
    have hgex5 : w.heap.size ≤ bx5 := by rw [hdx5]; exact HB.out.size
    have hltx2x5 : bx2 < bx5 := by rw [hdx5]; exact lt_of_block Hx2.out
    obtain ⟨W2, hW2⟩ : ∃ X, X = wA.alloc (.cells #[.slice p1.za (Wo.new Pl.zero).plan.zones.length p1.zc, .slice p1.fa (Wo.new Pl.zero).plan.fates.length p1.fc, .int .i64 (Wo.new Pl.zero).plan.ticks, .slice p1.da (Wo.new Pl.zero).plan.drops.length p1.dc, .int .i64 (Wo.new Pl.zero).clock, .slice a11 (Wo.new Pl.zero).socks.length c11, .slice a12 (Wo.new Pl.zero).dials.length c12, .slice a13 (Wo.new Pl.zero).looks.length c13, .int .i64 (Wo.new Pl.zero).dropped, .slice a14 (Wo.new Pl.zero).marks.length c14] 33) := ⟨_, rfl⟩
    have hlx5 := laid1 wA (.cells #[.slice p1.za (Wo.new Pl.zero).plan.zones.length p1.zc, .slice p1.fa (Wo.new Pl.zero).plan.fates.length p1.fc, .int .i64 (Wo.new Pl.zero).plan.ticks, .slice p1.da (Wo.new Pl.zero).plan.drops.length p1.dc, .int .i64 (Wo.new Pl.zero).clock, .slice a11 (Wo.new Pl.zero).socks.length c11, .slice a12 (Wo.new Pl.zero).dials.length c12, .slice a13 (Wo.new Pl.zero).looks.length c13, .int .i64 (Wo.new Pl.zero).dropped, .slice a14 (Wo.new Pl.zero).marks.length c14] 33)
    have hbx5 := below1 wA (.cells #[.slice p1.za (Wo.new Pl.zero).plan.zones.length p1.zc, .slice p1.fa (Wo.new Pl.zero).plan.fates.length p1.fc, .int .i64 (Wo.new Pl.zero).plan.ticks, .slice p1.da (Wo.new Pl.zero).plan.drops.length p1.dc, .int .i64 (Wo.new Pl.zero).clock, .slice a11 (Wo.new Pl.zero).socks.length c11, .slice a12 (Wo.new Pl.zero).dials.length c12, .slice a13 (Wo.new Pl.zero).looks.length c13, .int .i64 (Wo.new Pl.zero).dropped, .slice a14 (Wo.new Pl.zero).marks.length c14] 33)
    rw [← hW2] at hlx5 hbx5 ⊢
    clear hW2
    replace Hf5 := Lib.hid (Hf5.out.more (M := (fun b => b ∈ ([bx5] : List Nat))) (by intro b hb; simp only [List.mem_cons, List.not_mem_nil, or_false] at hb ⊢ <;> (first | omega | (right; omega))))
    replace Hx2 := Lib.hid ((hbx5.block _ (lt_of_block Hx2.out)).trans Hx2.out)
    replace Hf5 := Lib.hid (Hf5.out.below hbx5)
    replace HB := Lib.hid (HB.out.trans (hbx5.mono HB.out.size))
    rw [← hdx5] at hlx5 ⊢
    replace Hx5 := Lib.hid hlx5
    clear hlx5 hbx5 hdx5
    obtain ⟨⟨x2_c0, x2_c1, x2_c2, x2_c3⟩, x2_f0, x2_f1, x2_f2, x2_f3⟩ := box4 Hx2.out
    have HX := Lib.hid (HGp.out W2 (HPL.out W2 HB.out))
    try simp only [Wv.val, Wv.cells, Ad.v] at HX
    go_wp2_with fail
    with_reducible refine HX.out.mono ?_
    rintro e wB ⟨⟨rp, rfl, hfew⟩, hb⟩
    clear hfew HX
    clear x2_c0 x2_c1 x2_c2 x2_c3 x2_f0 x2_f1 x2_f2 x2_f3
    replace Hx2 := Lib.hid ((hb.block _ (lt_of_block Hx2.out)).trans Hx2.out)
    replace Hx5 := Lib.hid ((hb.block _ (lt_of_block Hx5.out)).trans Hx5.out)
    replace Hf5 := Lib.hid (Hf5.out.below hb)
    replace HB := Lib.hid (HB.out.trans (hb.mono HB.out.size))
    clear hb
    cases rp with
    | true =>
      go_wp2_with fail
      with_reducible refine (HWk.out _).mono ?_
      rintro e wf ⟨rfl, hb⟩
      have HBf := Lib.hid (HB.out.trans (hb.mono HB.out.size))
      clear hb
      go_wp2_with fail
      go_ret
      exact ⟨rfl, HBf.out⟩
    | false =>
      go_wp2_with fail
      with_reducible refine (HWk.out _).mono ?_
      rintro e wf ⟨rfl, hb⟩
      have HBf := Lib.hid (HB.out.trans (hb.mono HB.out.size))
      clear hb
      go_wp2_with fail
      go_ret
      exact ⟨rfl, HBf.out⟩
end Go.Proofs.Ytciohjgcndgiaaa
