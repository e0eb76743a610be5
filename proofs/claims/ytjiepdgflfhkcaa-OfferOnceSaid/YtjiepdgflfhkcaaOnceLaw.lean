/- OfferOnce walked, over the calls' contracts. -/
import Derived.Test.YtjiepdgflfhkcaaSpecs
set_option linter.unusedSimpArgs false
set_option linter.unusedVariables false
namespace Go.Proofs.Ytjiepdgflfhkcaa
open Go.RowKit Go.Proofs.Ytjiepdgflfhkcaa.Kind Go.Proofs.Ytjiepdgflfhkcaa.P7

/-- What is ready: by itself, or two that meet. -/
theorem ready_mem {R : List (List Of)} {D : List Dv} {clock : Int} {dl lk : List Bool} {m : Mt} (h : m ∈ ready R D clock dl lk) :
    ∃ (p : Nat) (row : List Of) (i : Nat) (o : Of), R[p]? = some row ∧ row[i]? = some o ∧
      ((m = ⟨p, i, -1, -1⟩ ∧ (o.kind = 1 → ∃ (n : Nat) (d : Dv), o.duct = n ∧ D[n]? = some d ∧ (decide (0 < d.n) || d.closed) = true)) ∨
       ∃ (q : Nat) (row2 : List Of) (j : Nat) (x : Of) (n : Nat) (d : Dv), R[q]? = some row2 ∧ row2[j]? = some x ∧ q ≠ p ∧ m = ⟨p, i, q, j⟩ ∧ o.duct = n ∧ D[n]? = some d ∧ o.kind = 0 ∧ x.kind = 1 ∧ x.duct = n ∧ d.cap = 0 ∧ d.closed = false) := by
  unfold ready at h
  obtain ⟨p, row, i, o, h1, h2, h3⟩ := (mem_allP _ _).1 h
  refine ⟨p, row, i, o, h1, h2, ?_⟩
  rcases h3 with ⟨h3, h4⟩ | ⟨q, row2, h4, h5, j, x, h6, h7, h8⟩
  · refine .inl ⟨h4, fun hk => ?_⟩
    unfold aloneP at h3
    rw [if_neg (by omega), if_pos hk] at h3
    split at h3
    · rename_i d hd
      obtain ⟨n, hn, hd2⟩ := atP_some hd
      exact ⟨n, d, hn, hd2, h3⟩
    · cases h3
  · obtain ⟨d, hd, k1, k2, k3, k4, k5⟩ := meetP_true h7
    obtain ⟨n, hn, hd2⟩ := atP_some hd
    exact .inr ⟨q, row2, j, x, n, d, h4, h6, h5, h8, hn, hd2, k1, k2, by omega, k4, k5⟩
theorem letter_ready {R : List (List Of)} {p i q j : Nat} {row row2 : List Of} {o x : Of} (h1 : R[p]? = some row) (h2 : row[i]? = some o) (h3 : R[q]? = some row2) (h4 : row2[j]? = some x) (k1 : o.kind = 0) (k2 : x.kind = 1) (k3 : o.duct = x.duct) : letterP ⟨p, i, q, j⟩ R = (o.m, true) := by
  have e1 : caseP R (p : Int) (i : Int) = some o := by unfold caseP; rw [if_neg (by omega)]; simp [h1, h2]
  have e2 : caseP R (q : Int) (j : Int) = some x := by unfold caseP; rw [if_neg (by omega)]; simp [h3, h4]
  unfold letterP
  dsimp only
  rw [e1, e2]
  simp [k1, k2, k3]
theorem neq_self_letter (x : Lt) (W : World) : (binOp .neq 36 (.agg #[.int .i8 x.kind, .int .i64 x.fr, .int .i64 x.num, .int .i64 x.sock, .string x.text, .int .i64 x.e]) (.agg #[.int .i8 x.kind, .int .i64 x.fr, .int .i64 x.num, .int .i64 x.sock, .string x.text, .int .i64 x.e])).run Try.prog W = .ok (.bool false) W := by
  have h := neq_letter W x x
  simp only [Lt.v] at h
  rw [h]
  simp

set_option maxHeartbeats 16000000 in
set_option maxRecDepth 1000000 in
theorem offeronce_walk (HAll : AllSpec) (HLet : LetterSpec) (HWk : WakesSpec) (hs : List Hv) (R : List (List Of)) (D : List Dv) (clock : Int) (dl lk : List Bool) (a b e f : Option Addr) (c d g h : Nat) (w : World) (hA : RowsC w a c hs R) (hB : DK.RowC w b d D) (hcap : Hid (∀ x ∈ D, x.cap ≤ 9223372036854775807)) (hE : BK.RowC w e g dl) (hF : BK.RowC w f h lk) :
    Calls Try.prog 3 #[.slice a hs.length c, .slice b D.length d, .int .i64 clock, .slice e dl.length g, .slice f lk.length h] w fun x w' => x = .returned (.bool true) ∧ Below w.heap.size w w' := by
  have HWk := Lib.hid (fun w => HWk w)
  have HGr := Lib.hid (greato_any hs D a b c d w hA.1 hB)
  by_cases hg : greatO hs D = true
  · rw [hg] at HGr
    clear hg hA hB hE hF HAll HLet
    go_enter Try.func3, Try.ntmps3
    go_wp2_with fail
    with_reducible refine HGr.out.mono ?_
    rintro x w1 ⟨rfl, hB⟩
    have HB1 := Lib.hid hB
    clear hB
    go_wp2_with fail
    with_reducible refine (HWk.out _).mono ?_
    rintro x w2 ⟨rfl, hB⟩
    have HB2 := Lib.hid (HB1.out.trans (hB.mono HB1.out.size))
    clear hB
    go_wp2_with fail
    go_ret
    exact ⟨rfl, HB2.out⟩
  have hg : greatO hs D = false := by simpa using hg
  rw [hg] at HGr
  obtain ⟨hR30, hD200, hD100, hS⟩ := greatO_false hA.2 hg
  replace hD100 : ∀ x ∈ D, x.n ≤ 100 ∧ x.cap ≤ 9223372036854775807 := fun x hx => ⟨hD100 x hx, hcap.out x hx⟩
  have hlen := ready_len R D clock dl lk hS (by omega)
  have HM := Lib.hid (fun m => @ready_mem R D clock dl lk m)
  have HSo := Lib.hid (rising_allP (fun p _ o => aloneP D clock o (told dl p) (told lk p)) (meetP D) R)
  have HAl := Lib.hid (fun w h1 h2 h3 h4 => HAll hs R D clock dl lk a b e f c d g h w (by omega) hD200 hD100 hS h1 h2 h3 h4)
  have HLet := Lib.hid (fun m hs R a c w x ok h1 h2 => HLet m hs R a c w x ok h1 h2)
  have HSo : Hid (List.Pairwise lessP (ready R D clock dl lk)) := HSo
  have HA := Lib.hid hA
  have HB := Lib.hid hB
  have HE := Lib.hid hE
  have HF := Lib.hid hF
  have HhR := Lib.hid hA.2.1
  clear hg hA hB hE hF HAll hS hD100
  generalize ready R D clock dl lk = L at *
  go_enter Try.func3, Try.ntmps3
  go_wp2_with fail
  with_reducible refine HGr.out.mono ?_
  rintro x w1 ⟨rfl, hB1⟩
  have HB1 := Lib.hid hB1
  clear hB1 HGr
  go_wp2_with fail
  with_reducible refine (HAl.out w1 (HA.out.below HB1.out) (HB.out.below HB1.out) (HE.out.below HB1.out) (HF.out.below HB1.out)).mono ?_
  rintro x w2 ⟨al, cl, rfl, hL, hB2⟩
  have HL2 := Lib.hid hL.row
  have HB2 := Lib.hid (HB1.out.trans (hB2.mono HB1.out.size))
  clear hL hB2 HAl HB1 HE HF
  go_wp2_with fail
  go_loopw [10, 12] (fun u10 u12 wr => ∃ k : Nat, u12 = .int .i64 k ∧ u10 = .bool false ∧ k ≤ L.length ∧ Hid (MK.RowC wr al cl L) ∧ Hid (Below w.heap.size w wr)) (fun _ u _ => L.length - (intOf u).toNat)
  case atStart => exact ⟨0, rfl, rfl, by omega, HL2, HB2⟩
  case round =>
    obtain ⟨k, rfl, rfl, hk, hL, hb⟩ := hrel
    have HL := Lib.hid hL.out
    have HBr := Lib.hid hb.out
    have hbs := hb.out.size
    clear hL hb HL2 HB2
    by_cases hlt : k < L.length
    case neg =>
      obtain rfl : k = L.length := by omega
      go_wp2_with fail
      with_reducible refine (HWk.out _).mono ?_
      rintro x w3 ⟨rfl, hB⟩
      have HB3 := Lib.hid (HBr.out.trans (hB.mono hbs))
      clear hB
      go_wp2_with fail
      go_ret
      exact ⟨rfl, HB3.out⟩
    obtain ⟨⟨mp, mi, mq, mj⟩, hm⟩ : ∃ m, L[k]? = some m := ⟨_, List.getElem?_eq_getElem hlt⟩
    obtain ⟨bm, om, rfl, hbm, hat⟩ := HL.out.2.2.2 (by omega)
    obtain ⟨m0, m1, m2, m3⟩ := MK.four hat hm
    have hlb : (k : Int) < (L.length : Int) := by omega
    have hk0 : (0 : Int) ≤ (k : Int) := by omega
    obtain ⟨p, row, i, o, hp, hi, hcase⟩ := HM.out _ (List.mem_of_getElem? hm)
    have HC := Lib.hid hcase
    have hmpi : mp = p ∧ mi = i ∧ (mq = -1 ∧ mj = -1 ∨ 0 ≤ mq ∧ 0 ≤ mj) := by
      rcases hcase with ⟨h1, _⟩ | ⟨q, row2, j, x, n, d, _, _, _, h1, _⟩
      · injection h1 with h1 h2 h3 h4
        exact ⟨h1, h2, .inl ⟨h3, h4⟩⟩
      · injection h1 with h1 h2 h3 h4
        exact ⟨h1, h2, .inr ⟨by omega, by omega⟩⟩
    obtain ⟨hmp, hmi, hmq⟩ := hmpi
    subst hmp hmi
    have HQ := Lib.hid hmq
    have HAr := Lib.hid (HA.out.below HBr.out)
    have HBr2 := Lib.hid (HB.out.below HBr.out)
    obtain ⟨ba, oa, xh, rfl, hba, hx0, hrow⟩ := HAr.out.at hp
    have hilt : i < row.length := (List.getElem?_eq_some_iff.1 hi).1
    have hplt : p < R.length := (List.getElem?_eq_some_iff.1 hp).1
    obtain ⟨bo, oo, hbo, hbolt, hato⟩ := hrow.2.2.2 (by omega)
    obtain ⟨o0, o1, o2, o3, o4, o5, o6, o7, o8⟩ := OK.nine hato hi
    rw [hbo] at hx0
    have hph : (p : Int) < (hs.length : Int) := by have := HhR.out; omega
    have hih : (i : Int) < (row.length : Int) := by omega
    have hp0 : (0 : Int) ≤ (p : Int) := by omega
    have hi0 : (0 : Int) ≤ (i : Int) := by omega
    have gp0 : decide ((p : Int) < 0) = false := by simp
    have gi0 : decide ((i : Int) < 0) = false := by simp
    have gph : decide (hs.length ≤ p) = false := by simp; omega
    have gih : decide (row.length ≤ i) = false := by simp; omega
    have gph2 : ¬ hs.length ≤ p := by omega
    have gih2 : ¬ row.length ≤ i := by omega
    -- behind m's variable
    have hb1 := below1 wr (.cells #[.int .i64 p, .int .i64 i, .int .i64 mq, .int .i64 mj] 30)
    have HM1 := Lib.hid (laid1 wr (.cells #[.int .i64 p, .int .i64 i, .int .i64 mq, .int .i64 mj] 30))
    have HB1 := Lib.hid hb1
    have hx1 := (hb1.cell (p := ⟨ba, oa + p, none⟩) hba).trans hx0
    have HX0 := Lib.hid hx0
    have HO := Lib.hid (And.intro o0 (And.intro o1 (And.intro o2 (And.intro o3 (And.intro o4 (And.intro o5 (And.intro o6 (And.intro o7 o8))))))))
    have HBa := Lib.hid (And.intro hba hbolt)
    have Hm := Lib.hid hm
    have HAt := Lib.hid hat
    have Hbm := Lib.hid hbm
    clear hcase hat hrow hbo hm hmq hx0 o0 o1 o2 o3 o4 o5 o6 o7 o8 hba hbolt hato hbm
    go_upto_region 8 with fail
    clear m0 m1 m2 m3
    generalize wr.alloc (.cells #[.int .i64 p, .int .i64 i, .int .i64 mq, .int .i64 mj] 30) = W1 at *
    have hM : wr.heap.size < W1.heap.size := lt_of_block HM1.out
    obtain ⟨⟨n0, n1, n2, n3⟩, _⟩ := box4 HM1.out
    go_cut [78] (fun s78 wx => s78 = .bool false ∧ Hid (Below W1.heap.size W1 wx))
    case first =>
      as_aux_lemma =>
        cases k with
        | zero =>
          go_quiet (fail)
          go_wp2_with fail
          go_meet
          exact ⟨rfl, Lib.hid (by first | exact below_drewN (Below.refl _ _) _ | exact (Below.refl _ _).drew | exact below_drewN (below_drewN (Below.refl _ _) _) _)⟩
        | succ k =>
          obtain ⟨⟨yp, yi, yq, yj⟩, hy⟩ : ∃ y, L[k]? = some y := ⟨_, List.getElem?_eq_getElem (by omega)⟩
          obtain ⟨y0, y1, y2, y3⟩ := MK.four HAt.out hy
          have hless : decide (lessP ⟨yp, yi, yq, yj⟩ ⟨p, i, mq, mj⟩) = true := by
            have h1 := List.pairwise_iff_getElem.1 HSo.out k (k + 1) (by omega) hlt (by omega)
            have e1 : L[k] = ⟨yp, yi, yq, yj⟩ := (List.getElem?_eq_some_iff.1 hy).2
            have e2 : L[k + 1] = ⟨p, i, mq, mj⟩ := (List.getElem?_eq_some_iff.1 Hm.out).2
            rw [e1, e2] at h1
            exact decide_eq_true h1
          have HLs := Lib.hid (fun W => less_any ⟨yp, yi, yq, yj⟩ ⟨p, i, mq, mj⟩ W)
          rw [hless] at HLs
          have hyk : IntKind.i64.wrap ((k : Int) + 1 - 1) = (k : Int) := by rw [IntKind.wrap_i64]; omega
          have hyk2 : IntKind.i64.wrap (k : Int) = (k : Int) := by rw [IntKind.wrap_i64]; omega
          have hyk3 : (k : Int) < (L.length : Int) := by omega
          have hyk4 : (0 : Int) ≤ (k : Int) := by omega
          have hyk5 : (0 : Int) < (k : Int) + 1 := by omega
          have HSB := Lib.hid (show ∀ W', Below W1.heap.size W1 W' → ((W'.cell? ⟨wr.heap.size, 0, none⟩ = some (.int .i64 p) ∧ W'.cell? ⟨wr.heap.size, 1, none⟩ = some (.int .i64 i) ∧ W'.cell? ⟨wr.heap.size, 2, none⟩ = some (.int .i64 mq) ∧ W'.cell? ⟨wr.heap.size, 3, none⟩ = some (.int .i64 mj)) ∧ W'.cell? ⟨ba, oa + p, none⟩ = some (.slice (some ⟨bo, oo, none⟩) row.length xh.c) ∧ (W'.cell? ⟨bm, om + k * 4, none⟩ = some (.int .i64 yp) ∧ W'.cell? ⟨bm, om + k * 4 + 1, none⟩ = some (.int .i64 yi) ∧ W'.cell? ⟨bm, om + k * 4 + 2, none⟩ = some (.int .i64 yq) ∧ W'.cell? ⟨bm, om + k * 4 + 3, none⟩ = some (.int .i64 yj))) ∧ Below W1.heap.size W1 W' from fun W' h => ⟨⟨(box4 ((h.block _ hM).trans HM1.out)).1, (h.cell (p := ⟨ba, oa + p, none⟩) (by have := HBa.out.1; show ba < _; omega)).trans hx1, by
            have e0 : ∀ z, wr.cell? ⟨bm, z, none⟩ = W'.cell? ⟨bm, z, none⟩ := fun z => ((h.cell (p := ⟨bm, z, none⟩) (by have := Hbm.out; show bm < _; omega)).trans (HB1.out.cell (p := ⟨bm, z, none⟩) Hbm.out)).symm
            rw [← e0, ← e0, ← e0, ← e0]
            exact ⟨y0, y1, y2, y3⟩⟩, h⟩)
          clear y0 y1 y2 y3
          go_region_held3 (fun W' => ((W'.cell? ⟨wr.heap.size, 0, none⟩ = some (.int .i64 p) ∧ W'.cell? ⟨wr.heap.size, 1, none⟩ = some (.int .i64 i) ∧ W'.cell? ⟨wr.heap.size, 2, none⟩ = some (.int .i64 mq) ∧ W'.cell? ⟨wr.heap.size, 3, none⟩ = some (.int .i64 mj)) ∧ W'.cell? ⟨ba, oa + p, none⟩ = some (.slice (some ⟨bo, oo, none⟩) row.length xh.c) ∧ (W'.cell? ⟨bm, om + k * 4, none⟩ = some (.int .i64 yp) ∧ W'.cell? ⟨bm, om + k * 4 + 1, none⟩ = some (.int .i64 yi) ∧ W'.cell? ⟨bm, om + k * 4 + 2, none⟩ = some (.int .i64 yq) ∧ W'.cell? ⟨bm, om + k * 4 + 3, none⟩ = some (.int .i64 yj))) ∧ Below W1.heap.size W1 W')
            (first | assumption | exact HSB.out _ (kept_alloc (by assumption) _) | exact HSB.out _ (kept_call (by assumption) hbC) | exact HSB.out _ (Below.refl _ _).drew)
            (first
              | (go_at_call 9; with_reducible refine (HLs.out _).mono ?_; rintro e wC ⟨rfl, hbC⟩))
          all_goals
            have hfin := Lib.hid (kept_call (by assumption) (Below.refl _ wC) : Below W1.heap.size W1 wC)
            go_wp2_with fail
            go_meet
            exact ⟨rfl, hfin⟩
    case rest =>
      obtain ⟨rfl, hbW⟩ := hcut
      have hBc := hbW.out
      have hM2 := (hBc.block _ hM).trans HM1.out
      have HMc := Lib.hid hM2
      have hxc := (hBc.cell (p := ⟨ba, oa + p, none⟩) (by have := HBa.out.1; show ba < _; omega)).trans hx1
      have HBrc := Lib.hid (HB1.out.trans (hBc.mono HB1.out.size))
      have e0 : ∀ z, wc.cell? ⟨bo, z, none⟩ = wr.cell? ⟨bo, z, none⟩ := fun z => HBrc.out.cell (p := ⟨bo, z, none⟩) HBa.out.2
      have o0 := (e0 _).trans HO.out.1
      have o1 := (e0 _).trans HO.out.2.1
      have o2 := (e0 _).trans HO.out.2.2.1
      have o3 := (e0 _).trans HO.out.2.2.2.1
      have o4 := (e0 _).trans HO.out.2.2.2.2.1
      have o5 := (e0 _).trans HO.out.2.2.2.2.2.1
      have o6 := (e0 _).trans HO.out.2.2.2.2.2.2.1
      have o7 := (e0 _).trans HO.out.2.2.2.2.2.2.2.1
      have o8 := (e0 _).trans HO.out.2.2.2.2.2.2.2.2
      clear n0 n1 n2 n3 hx1 hbW e0
      obtain ⟨⟨n0, n1, n2, n3⟩, _⟩ := box4 hM2
      have hszM : wr.heap.size < wc.heap.size := lt_of_block hM2
      clear hM2
      have HOc := Lib.hid (And.intro o0 (And.intro o1 (And.intro o2 (And.intro o3 (And.intro o4 (And.intro o5 (And.intro o6 (And.intro o7 o8))))))))
      have hbawc : ba < wc.heap.size := by have := HBa.out.1; have := HBrc.out.size; omega
      have hbowc : bo < wc.heap.size := by have := HBa.out.2; have := HBrc.out.size; omega
      have HSB := Lib.hid (show ∀ W' : World, Below wc.heap.size wc W' → (((W').cell? ⟨wr.heap.size, 0, none⟩ = some (.int .i64 p) ∧ (W').cell? ⟨wr.heap.size, 1, none⟩ = some (.int .i64 i)) ∧ (W').cell? ⟨ba, oa + p, none⟩ = some (.slice (some ⟨bo, oo, none⟩) row.length xh.c) ∧ ((W').cell? ⟨bo, oo + i * 9, none⟩ = some (.int .i8 o.kind) ∧ (W').cell? ⟨bo, oo + i * 9 + 1, none⟩ = some (.int .i64 o.duct) ∧ (W').cell? ⟨bo, oo + i * 9 + 2, none⟩ = some (.int .i8 o.m.kind) ∧ (W').cell? ⟨bo, oo + i * 9 + 3, none⟩ = some (.int .i64 o.m.fr) ∧ (W').cell? ⟨bo, oo + i * 9 + 4, none⟩ = some (.int .i64 o.m.num) ∧ (W').cell? ⟨bo, oo + i * 9 + 5, none⟩ = some (.int .i64 o.m.sock) ∧ (W').cell? ⟨bo, oo + i * 9 + 6, none⟩ = some (.string o.m.text) ∧ (W').cell? ⟨bo, oo + i * 9 + 7, none⟩ = some (.int .i64 o.m.e) ∧ (W').cell? ⟨bo, oo + i * 9 + 8, none⟩ = some (.int .i64 o.t))) ∧ Below wc.heap.size wc (W') from fun W' h => by
        have e0 : ∀ z, W'.cell? ⟨bo, z, none⟩ = wc.cell? ⟨bo, z, none⟩ := fun z => h.cell (p := ⟨bo, z, none⟩) hbowc
        have e1 := box4 ((h.block _ hszM).trans HMc.out)
        refine ⟨⟨⟨e1.1.1, e1.1.2.1⟩, (h.cell (p := ⟨ba, oa + p, none⟩) hbawc).trans hxc, ?_⟩, h⟩
        rw [e0, e0, e0, e0, e0, e0, e0, e0, e0]
        exact HOc.out)
      go_upto_region 10 with fail
      clear o0 o1 o2 o3 o4 o5 o6 o7 o8 n0 n1 n2 n3
      go_region_held3 (fun W' => (((W').cell? ⟨wr.heap.size, 0, none⟩ = some (.int .i64 p) ∧ (W').cell? ⟨wr.heap.size, 1, none⟩ = some (.int .i64 i)) ∧ (W').cell? ⟨ba, oa + p, none⟩ = some (.slice (some ⟨bo, oo, none⟩) row.length xh.c) ∧ ((W').cell? ⟨bo, oo + i * 9, none⟩ = some (.int .i8 o.kind) ∧ (W').cell? ⟨bo, oo + i * 9 + 1, none⟩ = some (.int .i64 o.duct) ∧ (W').cell? ⟨bo, oo + i * 9 + 2, none⟩ = some (.int .i8 o.m.kind) ∧ (W').cell? ⟨bo, oo + i * 9 + 3, none⟩ = some (.int .i64 o.m.fr) ∧ (W').cell? ⟨bo, oo + i * 9 + 4, none⟩ = some (.int .i64 o.m.num) ∧ (W').cell? ⟨bo, oo + i * 9 + 5, none⟩ = some (.int .i64 o.m.sock) ∧ (W').cell? ⟨bo, oo + i * 9 + 6, none⟩ = some (.string o.m.text) ∧ (W').cell? ⟨bo, oo + i * 9 + 7, none⟩ = some (.int .i64 o.m.e) ∧ (W').cell? ⟨bo, oo + i * 9 + 8, none⟩ = some (.int .i64 o.t))) ∧ Below wc.heap.size wc (W'))
        (first | assumption | exact HSB.out _ (kept_alloc (by assumption) _) | exact HSB.out _ (below1 _ _).drew | exact HSB.out _ (below1 _ _) | exact HSB.out _ (Below.refl _ _).drew)
        (fail)
      have hb2 := (below1 wc (.cells #[.int .i8 o.kind, .int .i64 o.duct, .int .i8 o.m.kind, .int .i64 o.m.fr, .int .i64 o.m.num, .int .i64 o.m.sock, .string o.m.text, .int .i64 o.m.e, .int .i64 o.t] 38)).drew
      have HA2 := Lib.hid (laidA wc (.cells #[.int .i8 o.kind, .int .i64 o.duct, .int .i8 o.m.kind, .int .i64 o.m.fr, .int .i64 o.m.num, .int .i64 o.m.sock, .string o.m.text, .int .i64 o.m.e, .int .i64 o.t] 38))
      have HB2 := Lib.hid (HBr.out.trans ((HBrc.out.trans (hb2.mono HBrc.out.size)).mono hbs))
      have HM2 := Lib.hid ((hb2.block _ hszM).trans HMc.out)
      have HL2 := Lib.hid (HL.out.below (HBrc.out.trans (hb2.mono HBrc.out.size)))
      clear hb2 hxc HSB
      obtain ⟨W2, hW2⟩ : ∃ W2, W2 = (wc.alloc (.cells #[.int .i8 o.kind, .int .i64 o.duct, .int .i8 o.m.kind, .int .i64 o.m.fr, .int .i64 o.m.num, .int .i64 o.m.sock, .string o.m.text, .int .i64 o.m.e, .int .i64 o.t] 38)).drew := ⟨_, rfl⟩
      rw [← hW2] at HA2 HB2 HM2 HL2 ⊢
      clear hW2
      generalize wc.heap.size = AO at *
      have HAr2 := Lib.hid (HA.out.below HB2.out)
      have HDr2 := Lib.hid (HB.out.below HB2.out)
      rcases HC.out with ⟨hmm, hkind⟩ | ⟨q, row2, j, x, n, dd, hq1, hq2, hqp, hmm, hon, hdn, hok, hxk, hxn, hdc, hdcl⟩
      · injection hmm with _ _ e3 e4
        subst e3 e4
        by_cases hk1 : o.kind = 1
        · obtain ⟨n, dd, hon, hdn, hrd⟩ := hkind hk1
          rw [hon, hk1] at HA2
          have hnlt : n < D.length := (List.getElem?_eq_some_iff.1 hdn).1
          obtain ⟨bd, od, rfl, hbd, hatd⟩ := HDr2.out.2.2.2 (by omega)
          obtain ⟨z0, z1, z2⟩ := DK.three hatd hdn
          have HRd := Lib.hid (fun W => rready_any dd.cap dd.a dd.n dd.c dd.closed W)
          rw [hrd] at HRd
          obtain ⟨n0, n1, n2, n3, n4, n5, n6, n7, n8⟩ := box9 HA2.out
          obtain ⟨⟨x0, x1, x2, x3⟩, _⟩ := box4 HM2.out
          have hnD : (n : Int) < (D.length : Int) := by omega
          have hn0 : (0 : Int) ≤ (n : Int) := by omega
          have gn0 : decide ((n : Int) < 0) = false := by simp
          have gnD : decide (D.length ≤ n) = false := by simp; omega
          have gnD2 : ¬ D.length ≤ n := by omega
          clear hkind hatd hdn hrd hon
          go_wp2_with fail
          with_reducible refine (HRd.out _).mono ?_
          rintro e w3 ⟨rfl, hB⟩
          have HB3 := Lib.hid (HB2.out.trans (hB.mono HB2.out.size))
          have HL3 := Lib.hid (HL2.out.below hB)
          clear hB
          go_wp2_with fail
          go_roundw
          case rel => exact ⟨k + 1, by go_num, by trivial, by omega, HL3, HB3⟩
          case measure => simp [intOf]; omega
        · obtain ⟨n0, n1, n2, n3, n4, n5, n6, n7, n8⟩ := box9 HA2.out
          obtain ⟨⟨x0, x1, x2, x3⟩, _⟩ := box4 HM2.out
          clear hkind
          go_wp2_with fail
          go_roundw
          case rel => exact ⟨k + 1, by go_num, by trivial, by omega, HL2, HB2⟩
          case measure => simp [intOf]; omega
      · injection hmm with _ _ e3 e4
        subst e3 e4
        rw [hon, hok] at HA2
        obtain ⟨ba', oa', xh2, he, hba2, hy0, hrow2⟩ := HAr2.out.at hq1
        injection he with he
        injection he with he1 he2
        subst he1 he2
        have hjlt : j < row2.length := (List.getElem?_eq_some_iff.1 hq2).1
        have hqlt : q < R.length := (List.getElem?_eq_some_iff.1 hq1).1
        have hnlt : n < D.length := (List.getElem?_eq_some_iff.1 hdn).1
        obtain ⟨bx, ox, hbx, hbxlt, hatx⟩ := hrow2.2.2.2 (by omega)
        have hx9 := OK.nine hatx hq2
        rw [hxk, hxn] at hx9
        have HX9 := Lib.hid hx9
        rw [hbx] at hy0
        obtain ⟨bd, od, rfl, hbd, hatd⟩ := HDr2.out.2.2.2 (by omega)
        have HZ := Lib.hid (DK.three hatd hdn)
        have HY0 := Lib.hid hy0
        have Hlt := Lib.hid (And.intro hba2 (And.intro hbxlt hbd))
        have HLt := Lib.hid (letter_ready hp hi hq1 hq2 hok hxk (by rw [hon, hxn]))
        obtain ⟨n0, n1, n2, n3, n4, n5, n6, n7, n8⟩ := box9 HA2.out
        obtain ⟨⟨x0, x1, x2, x3⟩, _⟩ := box4 HM2.out
        have hqh : (q : Int) < (hs.length : Int) := by have := HhR.out; omega
        have hjh : (j : Int) < (row2.length : Int) := by omega
        have hnD : (n : Int) < (D.length : Int) := by omega
        have hq0 : (0 : Int) ≤ (q : Int) := by omega
        have hj0 : (0 : Int) ≤ (j : Int) := by omega
        have hn0 : (0 : Int) ≤ (n : Int) := by omega
        have gq0 : decide ((q : Int) < 0) = false := by simp
        have gj0 : decide ((j : Int) < 0) = false := by simp
        have gn0 : decide ((n : Int) < 0) = false := by simp
        have gqh : decide (hs.length ≤ q) = false := by simp; omega
        have gqh2 : ¬ hs.length ≤ q := by omega
        have gjh : decide (row2.length ≤ j) = false := by simp; omega
        have gjh2 : ¬ row2.length ≤ j := by omega
        have gnD : decide (D.length ≤ n) = false := by simp; omega
        have gnD2 : ¬ D.length ≤ n := by omega
        have gqp : (q == p) = false := by simpa using hqp
        have gqp2 : ((q : Int) == (p : Int)) = false := by simp; omega
        clear hatx hatd hrow2 hbx hx9 hdn hon hok hxn
        go_upto_region 14 with fail
        go_quiet (fail)
        have hBq : Below W2.heap.size W2 (W2.drewN nq) := by first | exact below_drewN (Below.refl _ _) _ | exact below_drewN (below_drewN (Below.refl _ _) _) _
        have HX9q := Lib.hid (show ∀ z, (W2.drewN nq).cell? ⟨bx, z, none⟩ = W2.cell? ⟨bx, z, none⟩ from fun z => hBq.cell (p := ⟨bx, z, none⟩) Hlt.out.2.1)
        have HA3 := Lib.hid ((hBq.block _ (lt_of_block HA2.out)).trans HA2.out)
        have HM3 := Lib.hid ((hBq.block _ (lt_of_block HM2.out)).trans HM2.out)
        have HB3 := Lib.hid (HB2.out.trans (hBq.mono HB2.out.size))
        have HL3 := Lib.hid (HL2.out.below hBq)
        have HY3 := Lib.hid ((hBq.cell (p := ⟨ba, oa + q, none⟩) Hlt.out.1).trans HY0.out)
        have HZ3 := Lib.hid (And.intro ((hBq.cell (p := ⟨bd, od + n * 3, none⟩) Hlt.out.2.2).trans HZ.out.1) (And.intro ((hBq.cell (p := ⟨bd, od + n * 3 + 1, none⟩) Hlt.out.2.2).trans HZ.out.2.1) ((hBq.cell (p := ⟨bd, od + n * 3 + 2, none⟩) Hlt.out.2.2).trans HZ.out.2.2)))
        have HX3 := Lib.hid (show _ from HX9.out)
        rw [← HX9q.out, ← HX9q.out, ← HX9q.out, ← HX9q.out, ← HX9q.out, ← HX9q.out, ← HX9q.out, ← HX9q.out, ← HX9q.out] at HX3
        have Hlt3 := Lib.hid (show ba < (W2.drewN nq).heap.size ∧ bx < (W2.drewN nq).heap.size ∧ bd < (W2.drewN nq).heap.size from ⟨Nat.lt_of_lt_of_le Hlt.out.1 hBq.size, Nat.lt_of_lt_of_le Hlt.out.2.1 hBq.size, Nat.lt_of_lt_of_le Hlt.out.2.2 hBq.size⟩)
        clear n0 n1 n2 n3 n4 n5 n6 n7 n8 x0 x1 x2 x3 HX9q
        go_upto_region 16 with fail
        generalize W2.drewN nq = W3 at *
        have HSB := Lib.hid (show ∀ W' : World, Below W3.heap.size W3 W' → ((W'.cell? ⟨wr.heap.size, 2, none⟩ = some (.int .i64 q) ∧ W'.cell? ⟨wr.heap.size, 3, none⟩ = some (.int .i64 j)) ∧ W'.cell? ⟨AO, 1, none⟩ = some (.int .i64 n) ∧ W'.cell? ⟨ba, oa + q, none⟩ = some (.slice (some ⟨bx, ox, none⟩) row2.length xh2.c) ∧ (W'.cell? ⟨bx, ox + j * 9, none⟩ = some (.int .i8 1) ∧ W'.cell? ⟨bx, ox + j * 9 + 1, none⟩ = some (.int .i64 n) ∧ W'.cell? ⟨bx, ox + j * 9 + 2, none⟩ = some (.int .i8 x.m.kind) ∧ W'.cell? ⟨bx, ox + j * 9 + 3, none⟩ = some (.int .i64 x.m.fr) ∧ W'.cell? ⟨bx, ox + j * 9 + 4, none⟩ = some (.int .i64 x.m.num) ∧ W'.cell? ⟨bx, ox + j * 9 + 5, none⟩ = some (.int .i64 x.m.sock) ∧ W'.cell? ⟨bx, ox + j * 9 + 6, none⟩ = some (.string x.m.text) ∧ W'.cell? ⟨bx, ox + j * 9 + 7, none⟩ = some (.int .i64 x.m.e) ∧ W'.cell? ⟨bx, ox + j * 9 + 8, none⟩ = some (.int .i64 x.t)) ∧ (W'.cell? ⟨bd, od + n * 3, none⟩ = some (.int .i64 dd.cap) ∧ W'.cell? ⟨bd, od + n * 3 + 1, none⟩ = some (.slice dd.a dd.n dd.c) ∧ W'.cell? ⟨bd, od + n * 3 + 2, none⟩ = some (.bool dd.closed))) ∧ Below W3.heap.size W3 W' from fun W' h => by
          have e0 : ∀ z, W'.cell? ⟨bx, z, none⟩ = W3.cell? ⟨bx, z, none⟩ := fun z => h.cell (p := ⟨bx, z, none⟩) Hlt3.out.2.1
          have e1 : ∀ z, W'.cell? ⟨bd, z, none⟩ = W3.cell? ⟨bd, z, none⟩ := fun z => h.cell (p := ⟨bd, z, none⟩) Hlt3.out.2.2
          have b1 := box4 ((h.block _ (lt_of_block HM3.out)).trans HM3.out)
          have b2 := box9 ((h.block _ (lt_of_block HA3.out)).trans HA3.out)
          refine ⟨⟨⟨b1.1.2.2.1, b1.1.2.2.2⟩, b2.2.1, (h.cell (p := ⟨ba, oa + q, none⟩) Hlt3.out.1).trans HY3.out, ?_, ?_⟩, h⟩
          · rw [e0, e0, e0, e0, e0, e0, e0, e0, e0]
            exact HX3.out
          · rw [e1, e1, e1]
            exact HZ3.out)
        go_cut [15, 16] (fun s15 s16 wx => ∃ g15 g16, s15 = .pointer (some ⟨g15, 0, none⟩) ∧ s16 = .pointer (some ⟨g16, 0, none⟩) ∧ Hid (wx.heap[g15]? = some (.cells #[.int .i8 1, .int .i64 n, .int .i8 x.m.kind, .int .i64 x.m.fr, .int .i64 x.m.num, .int .i64 x.m.sock, .string x.m.text, .int .i64 x.m.e, .int .i64 x.t] 38 (0, 0))) ∧ Hid (wx.heap[g16]? = some (.cells #[.int .i64 0, .slice dd.a dd.n dd.c, .bool false] 42 (0, 0))) ∧ Hid (Below W3.heap.size W3 wx))
        case first =>
          as_aux_lemma =>
            go_region_held3 (fun W' => ((W'.cell? ⟨wr.heap.size, 2, none⟩ = some (.int .i64 q) ∧ W'.cell? ⟨wr.heap.size, 3, none⟩ = some (.int .i64 j)) ∧ W'.cell? ⟨AO, 1, none⟩ = some (.int .i64 n) ∧ W'.cell? ⟨ba, oa + q, none⟩ = some (.slice (some ⟨bx, ox, none⟩) row2.length xh2.c) ∧ (W'.cell? ⟨bx, ox + j * 9, none⟩ = some (.int .i8 1) ∧ W'.cell? ⟨bx, ox + j * 9 + 1, none⟩ = some (.int .i64 n) ∧ W'.cell? ⟨bx, ox + j * 9 + 2, none⟩ = some (.int .i8 x.m.kind) ∧ W'.cell? ⟨bx, ox + j * 9 + 3, none⟩ = some (.int .i64 x.m.fr) ∧ W'.cell? ⟨bx, ox + j * 9 + 4, none⟩ = some (.int .i64 x.m.num) ∧ W'.cell? ⟨bx, ox + j * 9 + 5, none⟩ = some (.int .i64 x.m.sock) ∧ W'.cell? ⟨bx, ox + j * 9 + 6, none⟩ = some (.string x.m.text) ∧ W'.cell? ⟨bx, ox + j * 9 + 7, none⟩ = some (.int .i64 x.m.e) ∧ W'.cell? ⟨bx, ox + j * 9 + 8, none⟩ = some (.int .i64 x.t)) ∧ (W'.cell? ⟨bd, od + n * 3, none⟩ = some (.int .i64 dd.cap) ∧ W'.cell? ⟨bd, od + n * 3 + 1, none⟩ = some (.slice dd.a dd.n dd.c) ∧ W'.cell? ⟨bd, od + n * 3 + 2, none⟩ = some (.bool dd.closed))) ∧ Below W3.heap.size W3 W')
              (first | assumption | exact HSB.out _ (kept_alloc (by assumption) _) | exact HSB.out _ (below1 _ _).drew | exact HSB.out _ (below1 _ _) | exact HSB.out _ (below2 _ _ _).drew | exact HSB.out _ (below2 _ _ _) | exact HSB.out _ (Below.refl _ _).drew)
              (fail)
            all_goals
              go_wp2_with fail
              go_meet
              first
                | exact ⟨_, _, rfl, rfl, Lib.hid (laidB1 _ _ _), Lib.hid (laidB2 _ _ _), Lib.hid (below2 _ _ _).drew⟩
                | exact ⟨_, _, rfl, rfl, Lib.hid (laidB2 _ _ _), Lib.hid (laidB1 _ _ _), Lib.hid (below2 _ _ _).drew⟩
        case rest =>
          as_aux_lemma =>
            obtain ⟨g15, g16, rfl, rfl, h15, h16, hbW⟩ := hcut
            have HA4 := Lib.hid ((hbW.out.block _ (lt_of_block HA3.out)).trans HA3.out)
            have HM4 := Lib.hid ((hbW.out.block _ (lt_of_block HM3.out)).trans HM3.out)
            have HB4 := Lib.hid (HB3.out.trans (hbW.out.mono HB3.out.size))
            have HL4 := Lib.hid (HL3.out.below hbW.out)
            have HX4 := Lib.hid h15.out
            have HD4 := Lib.hid h16.out
            have HC4 := Lib.hid (HLet.out ⟨p, i, q, j⟩ hs R (some ⟨ba, oa, none⟩) c _ o.m true HLt.out (HA.out.below HB4.out))
            obtain ⟨⟨x0, x1, x2, x3⟩, _⟩ := box4 HM4.out
            clear h15 h16 hbW HSB HX3 HZ3 HY3 Hlt3
            go_wp2_with fail
            with_reducible refine HC4.out.mono ?_
            rintro e w5 ⟨rfl, hB⟩
            have hb5 := hB.alloc hB.size (.cells #[.int .i8 o.m.kind, .int .i64 o.m.fr, .int .i64 o.m.num, .int .i64 o.m.sock, .string o.m.text, .int .i64 o.m.e] 36)
            have hS5 := laid1 w5 (.cells #[.int .i8 o.m.kind, .int .i64 o.m.fr, .int .i64 o.m.num, .int .i64 o.m.sock, .string o.m.text, .int .i64 o.m.e] 36)
            have hA5 := (hb5.block _ (lt_of_block HA4.out)).trans HA4.out
            have hX5 := (hb5.block _ (lt_of_block HX4.out)).trans HX4.out
            have hD5 := (hb5.block _ (lt_of_block HD4.out)).trans HD4.out
            have HB5 := Lib.hid (HB4.out.trans (hb5.mono HB4.out.size))
            have HL5 := Lib.hid (HL4.out.below hb5)
            obtain ⟨n0, n1, n2, n3, n4, n5, n6, n7, n8⟩ := box9 hA5
            obtain ⟨k0, k1, k2, k3, k4, k5, k6, k7, k8⟩ := box9 hX5
            obtain ⟨⟨d0, d1, d2⟩, _⟩ := box3 hD5
            obtain ⟨⟨s0, s1, s2, s3, s4, s5⟩, _⟩ := box6 hS5
            have hnq := neq_self_letter o.m
            have hgd := guard_letter
            clear hB hb5 hS5 hA5 hX5 hD5 HC4 x0 x1 x2 x3
            go_wp2_with fail
            go_roundw
            case rel => exact ⟨k + 1, by go_num, by trivial, by omega, HL5, HB5⟩
            case measure => simp [intOf]; omega
end Go.Proofs.Ytjiepdgflfhkcaa
