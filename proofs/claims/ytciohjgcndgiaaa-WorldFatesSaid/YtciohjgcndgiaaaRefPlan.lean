/- Rows of fates, fates, who is good: the document's own answers. -/
import Derived.Test.YtciohjgcndgiaaaRefMay
import Derived.Test.YtciohjgcndgiaaaPlanSame
set_option linter.unusedSimpArgs false
set_option linter.unusedVariables false
namespace Go.Proofs.Ytciohjgcndgiaaa
open Go.RowKit Go.Proofs.Ytciohjgcndgiaaa.Kind

theorem eql_ad (x y : Ad) (W : World) : (binOp .eql 43 (.agg #[.int .i8 x.f, .int .u16 x.g0, .int .u16 x.g1, .int .u16 x.g2, .int .u16 x.g3, .int .u16 x.g4, .int .u16 x.g5, .int .u16 x.g6, .int .u16 x.g7, .int .i64 x.p]) (.agg #[.int .i8 y.f, .int .u16 y.g0, .int .u16 y.g1, .int .u16 y.g2, .int .u16 y.g3, .int .u16 y.g4, .int .u16 y.g5, .int .u16 y.g6, .int .u16 y.g7, .int .i64 y.p])).run Try.prog W = .ok (.bool (x == y)) W := by
  have h := equalIn_addr 9997 W x y
  simp only [Ad.v] at h
  rw [run_eql_struct, h]
  simp
/-- Where an address's row is. -/
def RowR (P : Pl) (a : Ad) (r : Int) : Prop := (r = -1 ∧ rowOf P a = none) ∨ ∃ (k : Nat) (f : Fo), r = k ∧ P.fates[k]? = some f ∧ rowOf P a = some f
def NoRow (P : Pl) (a : Ad) (k : Nat) : Prop := (P.fates.take k).find? (fun f => decide (f.ad = a)) = none
theorem noRow_succ {P : Pl} {a : Ad} {k : Nat} {f : Fo} (h : NoRow P a k) (hf : P.fates[k]? = some f) (hne : f.ad ≠ a) : NoRow P a (k + 1) := by
  unfold NoRow at h ⊢
  rw [List.take_add_one, hf, List.find?_append, h]
  simp [hne]
theorem noRow_all {P : Pl} {a : Ad} (h : NoRow P a P.fates.length) : RowR P a (-1) := by
  unfold NoRow at h
  rw [List.take_length] at h
  exact .inl ⟨rfl, h⟩
theorem noRow_yes {P : Pl} {a : Ad} {k : Nat} {f : Fo} (h : NoRow P a k) (hf : P.fates[k]? = some f) (he : f.ad = a) : RowR P a k := by
  refine .inr ⟨k, f, rfl, hf, ?_⟩
  unfold NoRow at h
  unfold rowOf
  have hlt := (List.getElem?_eq_some_iff.1 hf).1
  rw [← List.take_append_drop k P.fates, List.find?_append, h, drop_at _ _ _ hf]
  simp [he]
set_option maxHeartbeats 8000000 in
set_option maxRecDepth 1000000 in
theorem ref_row (P : Pl) (v : Pv) (a : Ad) (w : World) (hP : PlanC w v P) :
    Calls Try.prog 41 #[v.val P, a.v] w fun e w' => ∃ r, e = .returned (.int .i64 r) ∧ RowR P a r ∧ Below w.heap.size w w' := by
  have HP := Lib.hid hP
  have hFl : P.fates.length ≤ 9223372036854775807 := by obtain ⟨_, ⟨hs, h1⟩, _⟩ := hP; exact nest_max h1
  clear hP
  obtain ⟨za, zc, fa, fc, da, dc⟩ := v
  simp only [Pv.val, Ad.v]
  go_enter Try.func41, Try.ntmps41
  go_upto_region 1 with fail
  have hb := below2 w (.cells #[.slice za P.zones.length zc, .slice fa P.fates.length fc, .int .i64 P.ticks, .slice da P.drops.length dc] 26) (.cells #[.int .i8 a.f, .int .u16 a.g0, .int .u16 a.g1, .int .u16 a.g2, .int .u16 a.g3, .int .u16 a.g4, .int .u16 a.g5, .int .u16 a.g6, .int .u16 a.g7, .int .i64 a.p] 43)
  have hL := laid2 w (.cells #[.slice za P.zones.length zc, .slice fa P.fates.length fc, .int .i64 P.ticks, .slice da P.drops.length dc] 26) (.cells #[.int .i8 a.f, .int .u16 a.g0, .int .u16 a.g1, .int .u16 a.g2, .int .u16 a.g3, .int .u16 a.g4, .int .u16 a.g5, .int .u16 a.g6, .int .u16 a.g7, .int .i64 a.p] 43)
  obtain ⟨w1, hw1⟩ : ∃ w1, w1 = (w.alloc (.cells #[.slice za P.zones.length zc, .slice fa P.fates.length fc, .int .i64 P.ticks, .slice da P.drops.length dc] 26)).alloc (.cells #[.int .i8 a.f, .int .u16 a.g0, .int .u16 a.g1, .int .u16 a.g2, .int .u16 a.g3, .int .u16 a.g4, .int .u16 a.g5, .int .u16 a.g6, .int .u16 a.g7, .int .i64 a.p] 43) := ⟨_, rfl⟩
  rw [← hw1] at hb hL ⊢
  clear hw1
  generalize hG1 : w.heap.size + 1 = G1 at *
  have HP1 := Lib.hid (HP.out.below hb)
  have HB1 := Lib.hid hb
  obtain ⟨⟨x0, x1, x2, x3⟩, _⟩ := box4 hL.1
  obtain ⟨⟨y0, y1, y2, y3, y4⟩, y5, y6, y7, y8, y9⟩ := box10 hL.2
  clear hb hL HP
  go_wp2_with fail
  go_loopw [5] (fun u5 wr => ∃ k q : Nat, u5 = .int .i64 k ∧ k ≤ P.fates.length ∧ Hid (NoRow P a k) ∧ wr = w1.drewN q) (fun u _ => P.fates.length - (intOf u).toNat)
  case atStart => exact ⟨0, 0, rfl, by omega, Lib.hid (by simp [NoRow]), rfl⟩
  case round =>
    obtain ⟨k, q, rfl, hk, HN, rfl⟩ := hrel
    by_cases hlt : k < P.fates.length
    · have hki : (k : Int) < (P.fates.length : Int) := by omega
      obtain ⟨f, hf⟩ : ∃ b, P.fates[k]? = some b := ⟨_, List.getElem?_eq_getElem hlt⟩
      obtain ⟨fs, hz⟩ := HP1.out.fates
      obtain ⟨⟨xad, xa, xl, xc⟩, g1, o1, hx1, e1, hg1, hat1, hn1, hl1, hR1⟩ := hz.get hf
      dsimp only at e1 hn1 hl1 hR1
      subst e1 hn1
      obtain ⟨p0, p1, p2, p3, p4, p5, p6, p7, p8, p9, p10⟩ := FK.cells hat1 hx1
      dsimp only at p0 p1 p2 p3 p4 p5 p6 p7 p8 p9 p10
      have HF := Lib.hid hf
      have hgd := guard_ad
      clear hz hx1 hat1 hR1 hg1 hl1
      by_cases he : f.ad = a
      · have HRR := Lib.hid (noRow_yes HN.out HF.out he)
        have hq := eql_ad f.ad a
        have hqq : (f.ad == a) = true := by simp [he]
        rw [hqq] at hq
        clear he hqq hf
        go_wp2_with fail
        go_quiet (fail)
        go_wp2_with fail
        go_ret
        exact ⟨_, rfl, HRR.out, below_drewN (below_drewN HB1.out _) _⟩
      · have HN2 := Lib.hid (noRow_succ HN.out HF.out he)
        have hq := eql_ad f.ad a
        have hqq : (f.ad == a) = false := by simp [he]
        rw [hqq] at hq
        clear he hqq hf
        go_wp2_with fail
        go_quiet (fail)
        go_wp2_with fail
        go_roundw
        case rel => exact ⟨k + 1, _, by go_num, by omega, HN2, rfl⟩
        case measure => simp [intOf]; omega
    · obtain rfl : k = P.fates.length := by omega
      go_wp2_with fail
      go_ret
      exact ⟨_, rfl, noRow_all HN.out, below_drewN HB1.out q⟩

set_option maxHeartbeats 4000000 in
theorem ref_nth (m : Nat) (n : Int) (hm : 0 < m) (hm2 : m ≤ 9223372036854775807) (w : World) : Calls Try.prog 42 #[.int .i64 m, .int .i64 n] w fun e w' => e = .returned (.int .i64 (nthI n m : Nat)) ∧ w' = w := by
  have hw : IntKind.i64.wrap ((m : Int) - 1) = (m : Int) - 1 := by rw [IntKind.wrap_i64]; omega
  go_enter Try.func42, Try.ntmps42
  go_wp2_with fail
  all_goals
    go_wp2_with fail
    go_ret
    first
      | (refine ⟨?_, rfl⟩; have e : ((nthI n m : Nat) : Int) = (0 : Int) := (by unfold nthI; omega); rw [e]; rfl)
      | (refine ⟨?_, rfl⟩; have e : ((nthI n m : Nat) : Int) = n := (by unfold nthI; omega); rw [e]; rfl)
      | (refine ⟨?_, rfl⟩; have e : ((nthI n m : Nat) : Int) = (m : Int) - 1 := (by unfold nthI; omega); rw [e]; rfl)
set_option maxHeartbeats 8000000 in
set_option maxRecDepth 1000000 in
theorem ref_fate (P : Pl) (v : Pv) (a : Ad) (n : Int) (w : World) (hP : PlanC w v P) :
    Calls Try.prog 20 #[v.val P, a.v, .int .i64 n] w fun e w' => ∃ z, e = .returned (.int .i8 z) ∧ Below w.heap.size w w' := by
  have HP := Lib.hid hP
  have hFl : P.fates.length ≤ 9223372036854775807 := by obtain ⟨_, ⟨hs, h1⟩, _⟩ := hP; exact nest_max h1
  have HRw := Lib.hid (fun w h => ref_row P v a w h)
  clear hP
  obtain ⟨za, zc, fa, fc, da, dc⟩ := v
  simp only [Pv.val, Ad.v] at HRw ⊢
  go_enter Try.func20, Try.ntmps20
  go_upto_region 1 with fail
  have hb := below2 w (.cells #[.slice za P.zones.length zc, .slice fa P.fates.length fc, .int .i64 P.ticks, .slice da P.drops.length dc] 26) (.cells #[.int .i8 a.f, .int .u16 a.g0, .int .u16 a.g1, .int .u16 a.g2, .int .u16 a.g3, .int .u16 a.g4, .int .u16 a.g5, .int .u16 a.g6, .int .u16 a.g7, .int .i64 a.p] 43)
  have hL := laid2 w (.cells #[.slice za P.zones.length zc, .slice fa P.fates.length fc, .int .i64 P.ticks, .slice da P.drops.length dc] 26) (.cells #[.int .i8 a.f, .int .u16 a.g0, .int .u16 a.g1, .int .u16 a.g2, .int .u16 a.g3, .int .u16 a.g4, .int .u16 a.g5, .int .u16 a.g6, .int .u16 a.g7, .int .i64 a.p] 43)
  obtain ⟨w1, hw1⟩ : ∃ w1, w1 = (w.alloc (.cells #[.slice za P.zones.length zc, .slice fa P.fates.length fc, .int .i64 P.ticks, .slice da P.drops.length dc] 26)).alloc (.cells #[.int .i8 a.f, .int .u16 a.g0, .int .u16 a.g1, .int .u16 a.g2, .int .u16 a.g3, .int .u16 a.g4, .int .u16 a.g5, .int .u16 a.g6, .int .u16 a.g7, .int .i64 a.p] 43) := ⟨_, rfl⟩
  rw [← hw1] at hb hL ⊢
  clear hw1
  generalize hG1 : w.heap.size + 1 = G1 at *
  have HP1 := Lib.hid (HP.out.below hb)
  have HX := Lib.hid (HRw.out w1 HP1.out)
  have HB1 := Lib.hid hb
  have HQ := Lib.hid hL.1
  obtain ⟨⟨x0, x1, x2, x3⟩, _⟩ := box4 hL.1
  obtain ⟨⟨y0, y1, y2, y3, y4⟩, y5, y6, y7, y8, y9⟩ := box10 hL.2
  clear hb hL HP HRw
  go_wp2_with fail
  with_reducible refine HX.out.mono ?_
  rintro e w2 ⟨r, rfl, hr, hb⟩
  have HQ2 := Lib.hid ((hb.block _ (lt_of_block HQ.out)).trans HQ.out)
  have HB2 := Lib.hid (HB1.out.trans (hb.mono HB1.out.size))
  have HP2 := Lib.hid (HP1.out.below hb)
  have HR := Lib.hid hr
  clear x0 x1 x2 x3 y0 y1 y2 y3 y4 y5 y6 y7 y8 y9 hb hr HX HP1 HB1 HQ
  rcases HR.out with ⟨rfl, _⟩ | ⟨k, f, rfl, hf, _⟩
  · clear HR
    go_wp2_with fail
    go_ret
    exact ⟨_, rfl, HB2.out⟩
  · clear HR
    obtain ⟨fs, hz⟩ := HP2.out.fates
    obtain ⟨⟨xad, xa, xl, xc⟩, g1, o1, hx1, e1, hg1, hat1, hn1, hl1, hR1⟩ := hz.get hf
    dsimp only at e1 hn1 hl1 hR1
    subst e1
    have hlt := (List.getElem?_eq_some_iff.1 hf).1
    have hki : (k : Int) < (P.fates.length : Int) := by omega
    have hk0 : ¬ (k : Int) < 0 := by omega
    have p10 := (FK.cells hat1 hx1).2.2.2.2.2.2.2.2.2.2
    dsimp only at p10
    obtain ⟨⟨x0, x1, x2, x3⟩, _⟩ := box4 HQ2.out
    have hll : xl ≤ 9223372036854775807 := by rw [hl1]; exact row_max hR1
    by_cases h0 : xl = 0
    · subst h0
      clear hz hx1 hat1 hn1 hf hl1 hR1
      go_wp2_with fail
      go_ret
      exact ⟨_, rfl, HB2.out⟩
    · have h0i : ¬ (xl : Int) = 0 := by omega
      have hbq : ((xl : Int) == 0) = false := by simp [h0]
      have hk00 : decide ((k : Int) < 0) = false := by simp
      obtain ⟨j, hj⟩ : ∃ j, j = nthI n xl := ⟨_, rfl⟩
      have hjl : j < xl := by rw [hj]; unfold nthI; omega
      have hjI : (j : Int) < (xl : Int) := by omega
      have HN := Lib.hid (fun w => hj ▸ ref_nth xl n (by omega) (by omega) w)
      clear hj
      obtain ⟨b, o, rfl, hbl, hat⟩ := hR1.2.2.2 (by omega)
      obtain ⟨z, hz9⟩ : ∃ z, w2.cell? ⟨b, o + j, none⟩ = some (.int .i8 z) := ⟨_, JK.one hat (List.getElem?_eq_getElem (by omega))⟩
      have HSB := Lib.hid (show ∀ W : World, Below w2.heap.size w2 W → ((W.cell? ⟨w.heap.size, 0, none⟩ = some (.slice za P.zones.length zc) ∧ W.cell? ⟨w.heap.size, 1, none⟩ = some (.slice (some ⟨g1, o1, none⟩) P.fates.length fc)) ∧ W.cell? ⟨g1, o1 + k * 11 + 10, none⟩ = some (.slice (some ⟨b, o, none⟩) xl xc) ∧ W.cell? ⟨b, o + j, none⟩ = some (.int .i8 z)) ∧ Below w2.heap.size w2 W from fun W h =>
        have e := (box4 ((h.block _ (lt_of_block HQ2.out)).trans HQ2.out)).1
        ⟨⟨⟨e.1, e.2.1⟩, (h.cell (p := ⟨g1, o1 + k * 11 + 10, none⟩) hg1).trans p10, (h.cell (p := ⟨b, o + j, none⟩) hbl).trans hz9⟩, h⟩)
      have HBL := Lib.hid hbl
      clear hz9 hz hx1 hat1 hn1 hf hR1 hat hbl hl1
      go_upto_region 4 with fail
      clear x0 x1 x2 x3 p10
      go_region_held3 (fun W => ((W.cell? ⟨w.heap.size, 0, none⟩ = some (.slice za P.zones.length zc) ∧ W.cell? ⟨w.heap.size, 1, none⟩ = some (.slice (some ⟨g1, o1, none⟩) P.fates.length fc)) ∧ W.cell? ⟨g1, o1 + k * 11 + 10, none⟩ = some (.slice (some ⟨b, o, none⟩) xl xc) ∧ W.cell? ⟨b, o + j, none⟩ = some (.int .i8 z)) ∧ Below w2.heap.size w2 W)
        (first | assumption | exact HSB.out _ (Below.refl _ _) | exact HSB.out _ (Below.refl _ _).drew)
        (first
          | (go_at_call 42; (with_reducible refine (HN.out _).mono ?_); rintro e wC ⟨rfl, rfl⟩))
      go_wp2_with fail
      go_ret
      exact ⟨_, rfl, by first | exact HB2.out | exact HB2.out.drew⟩
theorem good_of {P : Pl} {a : Ad} {f : Fo} (h : rowOf P a = some f) (h0 : 0 < f.l.length) (ha : (f.l.take f.l.length).all (fun x => decide (x = 0)) = true) : goodP P [a] = true := by
  rw [List.take_length] at ha
  unfold goodP goodOne
  simp only [List.all_cons, List.all_nil, Bool.and_true]
  rw [h]
  simp only [h0, decide_true, Bool.true_and]
  exact ha
theorem all_succ {l : List Int} {k : Nat} {x : Int} (h : (l.take k).all (fun x => decide (x = 0)) = true) (hx : l[k]? = some x) (h0 : x = 0) : (l.take (k + 1)).all (fun x => decide (x = 0)) = true := by
  rw [List.take_add_one, hx, List.all_append, h]
  simp [h0]
def GoodR (P : Pl) (a : Ad) (e : Ending) : Prop := ∃ r, e = .returned (.bool r) ∧ (r = true → goodP P [a] = true)
set_option maxHeartbeats 8000000 in
set_option maxRecDepth 1000000 in
theorem ref_good (P : Pl) (v : Pv) (a : Ad) (b : Option Addr) (c : Nat) (w : World) (hP : PlanC w v P) (hA : AK.RowC w b c [a]) :
    Calls Try.prog 19 #[v.val P, .slice b 1 c] w fun e w' => GoodR P a e ∧ Below w.heap.size w w' := by
  have HP := Lib.hid hP
  have hFl : P.fates.length ≤ 9223372036854775807 := by obtain ⟨_, ⟨hs, h1⟩, _⟩ := hP; exact nest_max h1
  have HRw := Lib.hid (fun w h => ref_row P v a w h)
  have HA := Lib.hid hA
  clear hP hA
  obtain ⟨za, zc, fa, fc, da, dc⟩ := v
  simp only [Pv.val, Ad.v] at HRw ⊢
  go_enter Try.func19, Try.ntmps19
  go_upto_region 1 with fail
  have hb := below1 w (.cells #[.slice za P.zones.length zc, .slice fa P.fates.length fc, .int .i64 P.ticks, .slice da P.drops.length dc] 26)
  have hL := laid1 w (.cells #[.slice za P.zones.length zc, .slice fa P.fates.length fc, .int .i64 P.ticks, .slice da P.drops.length dc] 26)
  obtain ⟨w1, hw1⟩ : ∃ w1, w1 = w.alloc (.cells #[.slice za P.zones.length zc, .slice fa P.fates.length fc, .int .i64 P.ticks, .slice da P.drops.length dc] 26) := ⟨_, rfl⟩
  rw [← hw1] at hb hL ⊢
  clear hw1
  have HP1 := Lib.hid (HP.out.below hb)
  have HX := Lib.hid (fun W (h : Below w1.heap.size w1 W) => HRw.out W (HP1.out.below h))
  have HB1 := Lib.hid hb
  have HQ := Lib.hid hL
  have HA1 := Lib.hid (HA.out.below hb)
  clear hb hL HP HRw HA
  go_wp2_with fail
  go_loopw [5] (fun u5 wr => ∃ k : Nat, u5 = .int .i64 k ∧ k ≤ 1 ∧ Hid (0 < k → goodP P [a] = true) ∧ Hid (Below w1.heap.size w1 wr)) (fun u _ => 1 - (intOf u).toNat)
  case atStart => exact ⟨0, rfl, by omega, Lib.hid (fun h => by omega), Lib.hid (Below.refl _ _)⟩
  case round =>
    obtain ⟨k, rfl, hk, HG, HBr⟩ := hrel
    by_cases hlt : k < 1
    · obtain rfl : k = 0 := by omega
      obtain ⟨b, o, rfl, hbl, hat⟩ := (HA1.out.below HBr.out).2.2.2 (by simp)
      obtain ⟨⟨c0, c1, c2, c3, c4⟩, c5, c6, c7, c8, c9⟩ := AK.ten hat (j := 0) (x := a) rfl
      simp only [Nat.zero_mul, Nat.add_zero] at c0 c1 c2 c3 c4 c5 c6 c7 c8 c9
      have hbl0 := HBr.out.size
      have HSB := Lib.hid (show ∀ W : World, Below wr.heap.size wr W → ((W.cell? ⟨w.heap.size, 0, none⟩ = some (.slice za P.zones.length zc) ∧ W.cell? ⟨w.heap.size, 1, none⟩ = some (.slice fa P.fates.length fc) ∧ W.cell? ⟨w.heap.size, 2, none⟩ = some (.int .i64 P.ticks) ∧ W.cell? ⟨w.heap.size, 3, none⟩ = some (.slice da P.drops.length dc)) ∧ (W.cell? ⟨b, o, none⟩ = some (.int .i8 a.f) ∧ W.cell? ⟨b, o + 1, none⟩ = some (.int .u16 a.g0) ∧ W.cell? ⟨b, o + 2, none⟩ = some (.int .u16 a.g1) ∧ W.cell? ⟨b, o + 3, none⟩ = some (.int .u16 a.g2) ∧ W.cell? ⟨b, o + 4, none⟩ = some (.int .u16 a.g3) ∧ W.cell? ⟨b, o + 5, none⟩ = some (.int .u16 a.g4) ∧ W.cell? ⟨b, o + 6, none⟩ = some (.int .u16 a.g5) ∧ W.cell? ⟨b, o + 7, none⟩ = some (.int .u16 a.g6) ∧ W.cell? ⟨b, o + 8, none⟩ = some (.int .u16 a.g7) ∧ W.cell? ⟨b, o + 9, none⟩ = some (.int .i64 a.p))) ∧ Below wr.heap.size wr W from fun W h =>
        have c := fun z => h.cell (p := ⟨b, z, none⟩) hbl
        ⟨⟨(box4 (((HBr.out.trans (h.mono hbl0)).block _ (lt_of_block HQ.out)).trans HQ.out)).1, (c _).trans c0, (c _).trans c1, (c _).trans c2, (c _).trans c3, (c _).trans c4, (c _).trans c5, (c _).trans c6, (c _).trans c7, (c _).trans c8, (c _).trans c9⟩, h⟩)
      have HXr := Lib.hid (fun W (h : Below wr.heap.size wr W) => HX.out W (HBr.out.trans (h.mono hbl0)))
      have hpos : decide ((0 : Int) < 1) = true := by decide
      clear hat hbl HG hbl0
      go_upto_region 4 with fail
      clear c0 c1 c2 c3 c4 c5 c6 c7 c8 c9
      go_region_held3 (fun W => ((W.cell? ⟨w.heap.size, 0, none⟩ = some (.slice za P.zones.length zc) ∧ W.cell? ⟨w.heap.size, 1, none⟩ = some (.slice fa P.fates.length fc) ∧ W.cell? ⟨w.heap.size, 2, none⟩ = some (.int .i64 P.ticks) ∧ W.cell? ⟨w.heap.size, 3, none⟩ = some (.slice da P.drops.length dc)) ∧ (W.cell? ⟨b, o, none⟩ = some (.int .i8 a.f) ∧ W.cell? ⟨b, o + 1, none⟩ = some (.int .u16 a.g0) ∧ W.cell? ⟨b, o + 2, none⟩ = some (.int .u16 a.g1) ∧ W.cell? ⟨b, o + 3, none⟩ = some (.int .u16 a.g2) ∧ W.cell? ⟨b, o + 4, none⟩ = some (.int .u16 a.g3) ∧ W.cell? ⟨b, o + 5, none⟩ = some (.int .u16 a.g4) ∧ W.cell? ⟨b, o + 6, none⟩ = some (.int .u16 a.g5) ∧ W.cell? ⟨b, o + 7, none⟩ = some (.int .u16 a.g6) ∧ W.cell? ⟨b, o + 8, none⟩ = some (.int .u16 a.g7) ∧ W.cell? ⟨b, o + 9, none⟩ = some (.int .i64 a.p))) ∧ Below wr.heap.size wr W)
        (first | assumption | exact HSB.out _ (Below.refl _ _) | exact HSB.out _ (kept_call (by assumption) hbC) | exact HSB.out _ (Below.refl _ _).drew)
        (first
          | (go_at_call 41; (with_reducible refine (HXr.out _ (kept_self (by assumption))).mono ?_); rintro e wC ⟨r, rfl, hr, hbC⟩))
      all_goals
        have HBC : Hid (Below wr.heap.size wr wC) := Lib.hid (by first | exact kept_self (by assumption) | exact kept_call (by assumption) hbC | exact kept_call (by assumption) (Below.refl _ wC))
        have HB2 := Lib.hid (HBr.out.trans (HBC.out.mono HBr.out.size))
        have HQ2 := Lib.hid ((HB2.out.block _ (lt_of_block HQ.out)).trans HQ.out)
        have HP2 := Lib.hid (HP1.out.below HB2.out)
        have HBF := Lib.hid (HB1.out.trans (HB2.out.mono HB1.out.size))
        have HR := Lib.hid hr
        clear hr HBC HSB HXr hbC
        rcases HR.out with ⟨rfl, _⟩ | ⟨j, f, rfl, hf, hrow⟩
        · clear HR
          go_wp2_with fail
          go_ret
          exact ⟨⟨_, rfl, fun h => by cases h⟩, by first | exact HBF.out | exact HBF.out.drew⟩
        · clear HR
          obtain ⟨fs, hz⟩ := HP2.out.fates
          obtain ⟨⟨xad, xa, xl, xc⟩, g1, o1, hx1, e1, hg1, hat1, hn1, hl1, hR1⟩ := hz.get hf
          dsimp only at e1 hn1 hl1 hR1
          subst e1
          have hlt := (List.getElem?_eq_some_iff.1 hf).1
          have hki : (j : Int) < (P.fates.length : Int) := by omega
          have hk0 : ¬ (j : Int) < 0 := by omega
          have p10 := (FK.cells hat1 hx1).2.2.2.2.2.2.2.2.2.2
          dsimp only at p10
          obtain ⟨⟨x0, x1, x2, x3⟩, _⟩ := box4 HQ2.out
          have hll : xl ≤ 9223372036854775807 := by rw [hl1]; exact row_max hR1
          have HRW := Lib.hid hrow
          by_cases h0 : xl = 0
          · subst h0
            clear hz hx1 hat1 hn1 hf hl1 hR1 hrow
            go_wp2_with fail
            go_ret
            exact ⟨⟨_, rfl, fun h => by cases h⟩, by first | exact HBF.out | exact HBF.out.drew⟩
          · have h0i : ¬ (xl : Int) = 0 := by omega
            have hbq : ((xl : Int) == 0) = false := by simp [h0]
            have hk00 : decide ((j : Int) < 0) = false := by simp
            have HL1 := Lib.hid hl1
            have HR1 := Lib.hid hR1
            clear hz hx1 hat1 hn1 hf hR1 hl1 hrow
            go_wp2_with fail
            go_loopw [7] (fun u7 wy => ∃ m q : Nat, u7 = .int .i64 m ∧ m ≤ xl ∧ Hid ((f.l.take m).all (fun x => decide (x = 0)) = true) ∧ wy = wC.drewN q) (fun u _ => xl - (intOf u).toNat)
            case atStart => exact ⟨0, 0, rfl, by omega, Lib.hid (by simp), rfl⟩
            case round =>
              obtain ⟨m, q, rfl, hm, HM, rfl⟩ := hrel
              by_cases hml : m < xl
              · have hmi : (m : Int) < (xl : Int) := by omega
                obtain ⟨bb, oo, rfl, hbb, hatt⟩ := HR1.out.2.2.2 (by have := HL1.out; omega)
                obtain ⟨z, hz⟩ : ∃ z, f.l[m]? = some z := ⟨_, List.getElem?_eq_getElem (by have := HL1.out; omega)⟩
                have r0 := JK.one hatt hz
                have HZ := Lib.hid hz
                clear hatt hz
                by_cases hz0 : z = 0
                · have HM2 := Lib.hid (all_succ HM.out HZ.out hz0)
                  have hzb : (z != 0) = false := by simp [hz0]
                  clear hz0
                  go_wp2_with fail
                  go_roundw
                  case rel => exact ⟨m + 1, _, by go_num, by omega, HM2, rfl⟩
                  case measure => simp [intOf]; omega
                · have hzb : (z != 0) = true := by simp [hz0]
                  clear hz0
                  go_wp2_with fail
                  go_ret
                  exact ⟨⟨_, rfl, fun h => by cases h⟩, below_drewN (by first | exact HBF.out | exact HBF.out.drew) q⟩
              · obtain rfl : m = xl := by omega
                have HGG := Lib.hid (good_of HRW.out (by have := HL1.out; omega) (by rw [← HL1.out]; exact HM.out))
                go_wp2_with fail
                go_roundw
                case rel => exact ⟨1, by first | rfl | go_num, by omega, Lib.hid (fun _ => HGG.out), Lib.hid (below_drewN (by first | exact HB2.out | exact HB2.out.drew) q)⟩
                case measure => simp [intOf]
    · obtain rfl : k = 1 := by omega
      have HBF := Lib.hid (HB1.out.trans (HBr.out.mono HB1.out.size))
      have hpos : decide ((1 : Int) < 1) = false := by decide
      go_wp2_with fail
      go_ret
      exact ⟨⟨_, rfl, fun _ => HG.out (by omega)⟩, HBF.out⟩
end Go.Proofs.Ytciohjgcndgiaaa
