/- Plans with the same words are the same by the document's own answer. -/
import Derived.Test.YtciohjgcndgiaaaSames
import Derived.Test.YtciohjgcndgiaaaSpecs
set_option linter.unusedSimpArgs false
set_option linter.unusedVariables false
namespace Go.Proofs.Ytciohjgcndgiaaa
open Go.RowKit Go.Proofs.Ytciohjgcndgiaaa.Kind

theorem box2 {w : World} {g : Nat} {x y : Value} {t : TypeId} (h : w.heap[g]? = some (.cells #[x, y] t (0, 0))) :
    (w.cell? ⟨g, 0, none⟩ = some x ∧ w.cell? ⟨g, 1, none⟩ = some y) ∧ (w.frozen? ⟨g, 0, none⟩ = false ∧ w.frozen? ⟨g, 1, none⟩ = false) := by
  simp [World.cell?, World.frozen?, h]
theorem FK.cells {w : World} {b o : Nat} {l : List Fv} (h : FK.At w b o l) {j : Nat} {x : Fv} (hx : l[j]? = some x) :
    w.cell? ⟨b, o + j * 11, none⟩ = some (.int .i8 x.ad.f) ∧ w.cell? ⟨b, o + j * 11 + 1, none⟩ = some (.int .u16 x.ad.g0) ∧ w.cell? ⟨b, o + j * 11 + 2, none⟩ = some (.int .u16 x.ad.g1) ∧ w.cell? ⟨b, o + j * 11 + 3, none⟩ = some (.int .u16 x.ad.g2) ∧ w.cell? ⟨b, o + j * 11 + 4, none⟩ = some (.int .u16 x.ad.g3) ∧ w.cell? ⟨b, o + j * 11 + 5, none⟩ = some (.int .u16 x.ad.g4) ∧ w.cell? ⟨b, o + j * 11 + 6, none⟩ = some (.int .u16 x.ad.g5) ∧ w.cell? ⟨b, o + j * 11 + 7, none⟩ = some (.int .u16 x.ad.g6) ∧ w.cell? ⟨b, o + j * 11 + 8, none⟩ = some (.int .u16 x.ad.g7) ∧ w.cell? ⟨b, o + j * 11 + 9, none⟩ = some (.int .i64 x.ad.p) ∧ w.cell? ⟨b, o + j * 11 + 10, none⟩ = some (.slice x.h.a x.h.n x.h.c) :=
  ⟨h j x hx 0 _ rfl, h j x hx 1 _ rfl, h j x hx 2 _ rfl, h j x hx 3 _ rfl, h j x hx 4 _ rfl, h j x hx 5 _ rfl, h j x hx 6 _ rfl, h j x hx 7 _ rfl, h j x hx 8 _ rfl, h j x hx 9 _ rfl, h j x hx 10 _ rfl⟩

/-- No row of fates is greater than memory. -/
def FatesFit (P : Pl) : Prop := ∀ f ∈ P.fates, f.l.length ≤ 140737488351232
set_option maxHeartbeats 8000000 in
set_option maxRecDepth 1000000 in
theorem plan_in (P : Pl) (v u : Pv) (w : World) (hF : FatesFit P) (hP : PlanC w v P) (hU : PlanC w u P) :
    Calls Try.prog 70 #[v.val P, u.val P] w fun e w' => e = .returned (.bool true) ∧ Below w.heap.size w w' := by
  have HP := Lib.hid hP
  have HU := Lib.hid hU
  have HF := Lib.hid hF
  have hZl : P.zones.length ≤ 9223372036854775807 := by obtain ⟨⟨hs, h1⟩, _⟩ := hP; exact nest_max h1
  have hFl : P.fates.length ≤ 9223372036854775807 := by obtain ⟨_, ⟨hs, h1⟩, _⟩ := hP; exact nest_max h1
  clear hP hU hF
  obtain ⟨za, zc, fa, fc, da, dc⟩ := v
  obtain ⟨zb, zd, fb, fd, db, dd⟩ := u
  simp only [Pv.val]
  go_enter Try.func70, Try.ntmps70
  go_upto_region 1 with fail
  have hb := below2 w (.cells #[.slice za P.zones.length zc, .slice fa P.fates.length fc, .int .i64 P.ticks, .slice da P.drops.length dc] 26) (.cells #[.slice zb P.zones.length zd, .slice fb P.fates.length fd, .int .i64 P.ticks, .slice db P.drops.length dd] 26)
  have hL := laid2 w (.cells #[.slice za P.zones.length zc, .slice fa P.fates.length fc, .int .i64 P.ticks, .slice da P.drops.length dc] 26) (.cells #[.slice zb P.zones.length zd, .slice fb P.fates.length fd, .int .i64 P.ticks, .slice db P.drops.length dd] 26)
  obtain ⟨w1, hw1⟩ : ∃ w1, w1 = (w.alloc (.cells #[.slice za P.zones.length zc, .slice fa P.fates.length fc, .int .i64 P.ticks, .slice da P.drops.length dc] 26)).alloc (.cells #[.slice zb P.zones.length zd, .slice fb P.fates.length fd, .int .i64 P.ticks, .slice db P.drops.length dd] 26) := ⟨_, rfl⟩
  have hSZ : w1.heap.size = w.heap.size + 2 := by rw [hw1]; simp
  rw [← hw1] at hb hL ⊢
  clear hw1
  generalize hG1 : w.heap.size + 1 = G1 at *
  have hW : ∀ W : World, Below w1.heap.size w1 W → ((W.cell? ⟨w.heap.size, 0, none⟩ = some (.slice za P.zones.length zc) ∧ W.cell? ⟨w.heap.size, 1, none⟩ = some (.slice fa P.fates.length fc) ∧ W.cell? ⟨w.heap.size, 2, none⟩ = some (.int .i64 P.ticks) ∧ W.cell? ⟨w.heap.size, 3, none⟩ = some (.slice da P.drops.length dc)) ∧ (W.cell? ⟨G1, 0, none⟩ = some (.slice zb P.zones.length zd) ∧ W.cell? ⟨G1, 1, none⟩ = some (.slice fb P.fates.length fd) ∧ W.cell? ⟨G1, 2, none⟩ = some (.int .i64 P.ticks) ∧ W.cell? ⟨G1, 3, none⟩ = some (.slice db P.drops.length dd))) ∧ PlanC W ⟨za, zc, fa, fc, da, dc⟩ P ∧ PlanC W ⟨zb, zd, fb, fd, db, dd⟩ P := fun W h =>
    ⟨⟨(box4 ((h.block _ (lt_of_block hL.1)).trans hL.1)).1, (box4 ((h.block _ (lt_of_block hL.2)).trans hL.2)).1⟩, HP.out.below (hb.trans (h.mono hb.size)), HU.out.below (hb.trans (h.mono hb.size))⟩
  have HW := Lib.hid hW
  have HB1 := Lib.hid hb
  clear hb hL hW HP HU
  obtain ⟨⟨⟨x0, x1, x2, x3⟩, z0, z1, z2, z3⟩, _⟩ := HW.out w1 (Below.refl _ _)
  go_wp2_with fail
  clear x0 x1 x2 x3 z0 z1 z2 z3
  go_loopw [5] (fun u5 wr => ∃ k : Nat, u5 = .int .i64 k ∧ k ≤ P.zones.length ∧ Hid (Below w1.heap.size w1 wr)) (fun u _ => P.zones.length - (intOf u).toNat)
  case atStart => exact ⟨0, rfl, by omega, Lib.hid (Below.refl _ _)⟩
  case round =>
    obtain ⟨k, rfl, hk, HBr⟩ := hrel
    obtain ⟨⟨⟨x0, x1, x2, x3⟩, z0, z1, z2, z3⟩, hpp⟩ := HW.out wr HBr.out
    by_cases hlt : k < P.zones.length
    · have hki : (k : Int) < (P.zones.length : Int) := by omega
      have hkw : IntKind.i64.wrap ((k : Int) + 1) = (k : Int) + 1 := by rw [IntKind.wrap_i64]; omega
      obtain ⟨⟨nm, ans⟩, hbk⟩ : ∃ b, P.zones[k]? = some b := ⟨_, List.getElem?_eq_getElem hlt⟩
      obtain ⟨⟨hs1, hz1⟩, _⟩ := hpp.1
      obtain ⟨⟨hs2, hz2⟩, _⟩ := hpp.2
      obtain ⟨⟨xn, xa, xl, xc⟩, g1, o1, hx1, e1, hg1, hat1, hn1, hl1, as1, ha1⟩ := hz1.get hbk
      obtain ⟨⟨yn, ya, yl, yc⟩, g2, o2, hx2, e2, hg2, hat2, hn2, hl2, as2, ha2⟩ := hz2.get hbk
      dsimp only at e1 e2 hn1 hl1 ha1 hn2 hl2 ha2
      subst e1 e2 hn1 hl1
      obtain rfl := hn2
      obtain rfl := hl2
      obtain ⟨p0, p1⟩ := ZK.two hat1 hx1
      obtain ⟨q0, q1⟩ := ZK.two hat2 hx2
      dsimp only at p0 p1 q0 q1
      have HA1 := Lib.hid ha1
      have HA2 := Lib.hid ha2
      have hAl : ans.length ≤ 9223372036854775807 := nest_max ha1
      have hg1' := hg1
      have hsz := HBr.out.size
      have hs1 := HB1.out.size
      have hs2 : w1.heap.size = w.heap.size + 2 := hSZ
      have d1 : ¬ w.heap.size = wr.heap.size := by omega
      have d2 : ¬ w.heap.size = wr.heap.size + 1 := by omega
      have d3 : ¬ G1 = wr.heap.size := by omega
      have d4 : ¬ G1 = wr.heap.size + 1 := by omega
      have d5 : ¬ g1 = wr.heap.size := by omega
      have d6 : ¬ g1 = wr.heap.size + 1 := by omega
      have d7 : ¬ g2 = wr.heap.size := by omega
      have d8 : ¬ g2 = wr.heap.size + 1 := by omega
      have n1 := Nat.ne_of_gt (show w.heap.size < wr.heap.size by omega)
      have n3 := Nat.ne_of_gt (show G1 < wr.heap.size by omega)
      have l1 : w.heap.size < wr.heap.size := by omega
      have l3 : G1 < wr.heap.size := by omega
      have f1 : ∀ (o : Obj) (z : Nat), (wr.alloc o).cell? ⟨w.heap.size, z, none⟩ = wr.cell? ⟨w.heap.size, z, none⟩ := fun o z => (below1 wr o).cell (p := ⟨w.heap.size, z, none⟩) l1
      have f2 : ∀ (o : Obj) (z : Nat), (wr.alloc o).cell? ⟨G1, z, none⟩ = wr.cell? ⟨G1, z, none⟩ := fun o z => (below1 wr o).cell (p := ⟨G1, z, none⟩) l3
      have f3 : ∀ (o : Obj) (z : Nat), (wr.alloc o).cell? ⟨g1, z, none⟩ = wr.cell? ⟨g1, z, none⟩ := fun o z => (below1 wr o).cell (p := ⟨g1, z, none⟩) hg1
      have f4 : ∀ (o : Obj) (z : Nat), (wr.alloc o).cell? ⟨g2, z, none⟩ = wr.cell? ⟨g2, z, none⟩ := fun o z => (below1 wr o).cell (p := ⟨g2, z, none⟩) hg2
      have f5 : ∀ (o q : Obj) (z : Nat), ((wr.alloc o).alloc q).cell? ⟨w.heap.size, z, none⟩ = wr.cell? ⟨w.heap.size, z, none⟩ := fun o q z => (below2 wr o q).cell (p := ⟨w.heap.size, z, none⟩) l1
      have f6 : ∀ (o q : Obj) (z : Nat), ((wr.alloc o).alloc q).cell? ⟨G1, z, none⟩ = wr.cell? ⟨G1, z, none⟩ := fun o q z => (below2 wr o q).cell (p := ⟨G1, z, none⟩) l3
      have f7 : ∀ (o q : Obj) (z : Nat), ((wr.alloc o).alloc q).cell? ⟨g1, z, none⟩ = wr.cell? ⟨g1, z, none⟩ := fun o q z => (below2 wr o q).cell (p := ⟨g1, z, none⟩) hg1
      have f8 : ∀ (o q : Obj) (z : Nat), ((wr.alloc o).alloc q).cell? ⟨g2, z, none⟩ = wr.cell? ⟨g2, z, none⟩ := fun o q z => (below2 wr o q).cell (p := ⟨g2, z, none⟩) hg2
      clear hbk hz1 hz2 hx1 hx2 hat1 hat2 ha1 ha2 hpp hsz hs1 hs2
      go_upto_region 4 with fail
      go_cut [6, 7] (fun s6 s7 wx => ∃ g6 g7 : Nat, s6 = .pointer (some ⟨g6, 0, none⟩) ∧ s7 = .pointer (some ⟨g7, 0, none⟩) ∧ Hid (wx.heap[g6]? = some (.cells #[.string yn, .slice xa ans.length xc] 70 (0, 0))) ∧ Hid (wx.heap[g7]? = some (.cells #[.string yn, .slice ya ans.length yc] 70 (0, 0))) ∧ Hid (Below wr.heap.size wr wx))
      case first =>
        go_region
        all_goals
          go_wp2_with fail
          go_meet
          first
            | exact ⟨_, _, rfl, rfl, Lib.hid (laid2 wr _ _).1, Lib.hid (laid2 wr _ _).2, Lib.hid (below2 wr _ _)⟩
            | exact ⟨_, _, rfl, rfl, Lib.hid (laid2 wr _ _).2, Lib.hid (laid2 wr _ _).1, Lib.hid (below2 wr _ _)⟩
            | exact ⟨_, _, rfl, rfl, Lib.hid (laidB1 wr _ _), Lib.hid (laidB2 wr _ _), Lib.hid (below2 wr _ _).drew⟩
            | exact ⟨_, _, rfl, rfl, Lib.hid (laidB2 wr _ _), Lib.hid (laidB1 wr _ _), Lib.hid (below2 wr _ _).drew⟩
      case rest =>
        obtain ⟨g6, g7, rfl, rfl, HX, HY, HBx⟩ := hcut
        clear x0 x1 x2 x3 z0 z1 z2 z3 p0 p1 q0 q1
        have HV := Lib.hid (show ∀ W : World, Below wc.heap.size wc W → ((W.cell? ⟨g6, 0, none⟩ = some (.string yn) ∧ W.cell? ⟨g6, 1, none⟩ = some (.slice xa ans.length xc)) ∧ (W.cell? ⟨g7, 0, none⟩ = some (.string yn) ∧ W.cell? ⟨g7, 1, none⟩ = some (.slice ya ans.length yc))) ∧ HK.NestC AnsP W xa xc as1 ans ∧ HK.NestC AnsP W ya yc as2 ans ∧ Below w1.heap.size w1 W from fun W h =>
          have hb := HBx.out.trans (h.mono HBx.out.size)
          ⟨⟨(box2 ((h.block _ (lt_of_block HX.out)).trans HX.out)).1, (box2 ((h.block _ (lt_of_block HY.out)).trans HY.out)).1⟩, HA1.out.below ansP_steady hb, HA2.out.below ansP_steady hb, HBr.out.trans (hb.mono HBr.out.size)⟩)
        clear HX HY HBx HA1 HA2 HBr
        obtain ⟨⟨⟨p0, p1⟩, q0, q1⟩, _⟩ := HV.out wc (Below.refl _ _)
        go_wp2_with fail
        clear p0 p1 q0 q1
        go_loopw [8] (fun u8 wy => ∃ j : Nat, u8 = .int .i64 j ∧ j ≤ ans.length ∧ Hid (Below wc.heap.size wc wy)) (fun u _ => ans.length - (intOf u).toNat)
        case atStart => exact ⟨0, rfl, by omega, Lib.hid (Below.refl _ _)⟩
        case round =>
          obtain ⟨j, rfl, hj, HBy⟩ := hrel
          obtain ⟨⟨⟨p0, p1⟩, q0, q1⟩, hn1, hn2, hbw⟩ := HV.out wr HBy.out
          by_cases hjl : j < ans.length
          · have hji : (j : Int) < (ans.length : Int) := by omega
            have hjw : IntKind.i64.wrap ((j : Int) + 1) = (j : Int) + 1 := by rw [IntKind.wrap_i64]; omega
            obtain ⟨l, hl⟩ : ∃ l, ans[j]? = some l := ⟨_, List.getElem?_eq_getElem hjl⟩
            obtain ⟨⟨la, ln, lc⟩, m1, r1, hx1, e1, hm1, hat1, hl1, hR1⟩ := hn1.get hl
            obtain ⟨⟨ma, mn, mc⟩, m2, r2, hx2, e2, hm2, hat2, hl2, hR2⟩ := hn2.get hl
            dsimp only at e1 e2 hl1 hR1 hl2 hR2
            subst e1 e2 hl1
            obtain rfl := hl2
            have y1 := HK.one hat1 hx1
            have y2 := HK.one hat2 hx2
            dsimp only at y1 y2
            have HC := Lib.hid (show ∀ W' : World, Below wr.heap.size wr W' → (((W'.cell? ⟨g6, 0, none⟩ = some (.string yn) ∧ W'.cell? ⟨g6, 1, none⟩ = some (.slice (some ⟨m1, r1, none⟩) ans.length xc)) ∧ (W'.cell? ⟨g7, 0, none⟩ = some (.string yn) ∧ W'.cell? ⟨g7, 1, none⟩ = some (.slice (some ⟨m2, r2, none⟩) ans.length yc))) ∧ W'.cell? ⟨m1, r1 + j, none⟩ = some (.slice la l.length lc) ∧ W'.cell? ⟨m2, r2 + j, none⟩ = some (.slice ma l.length mc)) ∧ Below wr.heap.size wr W' from fun W' h =>
              ⟨⟨(HV.out W' (HBy.out.trans (h.mono HBy.out.size))).1, (h.cell (p := ⟨m1, r1 + j, none⟩) hm1).trans y1, (h.cell (p := ⟨m2, r2 + j, none⟩) hm2).trans y2⟩, h⟩)
            have HS := Lib.hid (fun W' (h : Below wr.heap.size wr W') => same_ads l la ma lc mc W' (hR1.below h) (hR2.below h))
            clear hl hn1 hn2 hx1 hx2 hat1 hat2 hR1 hR2 hm1 hm2 hbw
            go_upto_region 10 with fail
            clear p0 p1 q0 q1 y1 y2
            go_region_held3 (fun W' => (((W'.cell? ⟨g6, 0, none⟩ = some (.string yn) ∧ W'.cell? ⟨g6, 1, none⟩ = some (.slice (some ⟨m1, r1, none⟩) ans.length xc)) ∧ (W'.cell? ⟨g7, 0, none⟩ = some (.string yn) ∧ W'.cell? ⟨g7, 1, none⟩ = some (.slice (some ⟨m2, r2, none⟩) ans.length yc))) ∧ W'.cell? ⟨m1, r1 + j, none⟩ = some (.slice la l.length lc) ∧ W'.cell? ⟨m2, r2 + j, none⟩ = some (.slice ma l.length mc)) ∧ Below wr.heap.size wr W')
              (first | assumption | exact HC.out _ (Below.refl _ _) | exact HC.out _ (kept_call (by assumption) hbC) | exact HC.out _ (Below.refl _ _).drew)
              (first
                | (go_at_call 78; (with_reducible refine (HS.out _ (kept_self (by assumption))).mono ?_); rintro e wC ⟨rfl, hbC⟩))
            have HBC : Hid (Below wr.heap.size wr wC) := Lib.hid (by first | exact kept_self (by assumption) | exact kept_call (by assumption) hbC | exact kept_call (by assumption) (Below.refl _ wC))
            have HBD := Lib.hid (HBy.out.trans (HBC.out.mono HBy.out.size))
            clear HBC HC HS
            go_wp2_with fail
            go_roundw
            case rel => exact ⟨j + 1, by go_num, by omega, by first | exact HBD | exact Lib.hid HBD.out.drew⟩
            case measure => simp [intOf]; omega
          · obtain rfl : j = ans.length := by omega
            have HBF := Lib.hid hbw
            clear hn1 hn2 hbw
            go_wp2_with fail
            go_roundw
            case rel => exact ⟨k + 1, by go_num, by omega, HBF⟩
            case measure => simp [intOf]; omega
    · obtain rfl : k = P.zones.length := by omega
      clear hpp
      go_wp2_with fail
      clear x0 x1 x2 x3 z0 z1 z2 z3
      go_loopw [9] (fun u9 wy => ∃ k : Nat, u9 = .int .i64 k ∧ k ≤ P.fates.length ∧ Hid (Below w1.heap.size w1 wy)) (fun u _ => P.fates.length - (intOf u).toNat)
      case atStart => exact ⟨0, rfl, by omega, HBr⟩
      case round =>
        obtain ⟨k, rfl, hk2, HBy⟩ := hrel
        obtain ⟨⟨⟨x0, x1, x2, x3⟩, z0, z1, z2, z3⟩, hpp⟩ := HW.out wr HBy.out
        by_cases hlt : k < P.fates.length
        · have hki : (k : Int) < (P.fates.length : Int) := by omega
          have hkw : IntKind.i64.wrap ((k : Int) + 1) = (k : Int) + 1 := by rw [IntKind.wrap_i64]; omega
          obtain ⟨⟨ad, l⟩, hbk⟩ : ∃ b, P.fates[k]? = some b := ⟨_, List.getElem?_eq_getElem hlt⟩
          obtain ⟨_, ⟨hs1, hz1⟩, _⟩ := hpp.1
          obtain ⟨_, ⟨hs2, hz2⟩, _⟩ := hpp.2
          obtain ⟨⟨xad, xa, xl, xc⟩, g1, o1, hx1, e1, hg1, hat1, hn1, hl1, hR1⟩ := hz1.get hbk
          obtain ⟨⟨yad, ya, yl, yc⟩, g2, o2, hx2, e2, hg2, hat2, hn2, hl2, hR2⟩ := hz2.get hbk
          have hfit := HF.out _ (List.mem_of_getElem? hbk)
          dsimp only at e1 e2 hn1 hl1 hR1 hn2 hl2 hR2 hfit
          subst e1 e2 hn1 hl1
          obtain rfl := hn2
          obtain rfl := hl2
          obtain ⟨p0, p1, p2, p3, p4, p5, p6, p7, p8, p9, p10⟩ := FK.cells hat1 hx1
          obtain ⟨q0, q1, q2, q3, q4, q5, q6, q7, q8, q9, q10⟩ := FK.cells hat2 hx2
          dsimp only at p0 p1 p2 p3 p4 p5 p6 p7 p8 p9 p10 q0 q1 q2 q3 q4 q5 q6 q7 q8 q9 q10
          have HC := Lib.hid (show ∀ W' : World, Below wr.heap.size wr W' → (((W'.cell? ⟨w.heap.size, 0, none⟩ = some (.slice za P.zones.length zc) ∧ W'.cell? ⟨w.heap.size, 1, none⟩ = some (.slice (some ⟨g1, o1, none⟩) P.fates.length fc) ∧ W'.cell? ⟨w.heap.size, 2, none⟩ = some (.int .i64 P.ticks) ∧ W'.cell? ⟨w.heap.size, 3, none⟩ = some (.slice da P.drops.length dc)) ∧ (W'.cell? ⟨G1, 0, none⟩ = some (.slice zb P.zones.length zd) ∧ W'.cell? ⟨G1, 1, none⟩ = some (.slice (some ⟨g2, o2, none⟩) P.fates.length fd) ∧ W'.cell? ⟨G1, 2, none⟩ = some (.int .i64 P.ticks) ∧ W'.cell? ⟨G1, 3, none⟩ = some (.slice db P.drops.length dd))) ∧ (W'.cell? ⟨g1, o1 + k * 11, none⟩ = some (.int .i8 yad.f) ∧ W'.cell? ⟨g1, o1 + k * 11 + 1, none⟩ = some (.int .u16 yad.g0) ∧ W'.cell? ⟨g1, o1 + k * 11 + 2, none⟩ = some (.int .u16 yad.g1) ∧ W'.cell? ⟨g1, o1 + k * 11 + 3, none⟩ = some (.int .u16 yad.g2) ∧ W'.cell? ⟨g1, o1 + k * 11 + 4, none⟩ = some (.int .u16 yad.g3) ∧ W'.cell? ⟨g1, o1 + k * 11 + 5, none⟩ = some (.int .u16 yad.g4) ∧ W'.cell? ⟨g1, o1 + k * 11 + 6, none⟩ = some (.int .u16 yad.g5) ∧ W'.cell? ⟨g1, o1 + k * 11 + 7, none⟩ = some (.int .u16 yad.g6) ∧ W'.cell? ⟨g1, o1 + k * 11 + 8, none⟩ = some (.int .u16 yad.g7) ∧ W'.cell? ⟨g1, o1 + k * 11 + 9, none⟩ = some (.int .i64 yad.p) ∧ W'.cell? ⟨g1, o1 + k * 11 + 10, none⟩ = some (.slice xa l.length xc)) ∧ (W'.cell? ⟨g2, o2 + k * 11, none⟩ = some (.int .i8 yad.f) ∧ W'.cell? ⟨g2, o2 + k * 11 + 1, none⟩ = some (.int .u16 yad.g0) ∧ W'.cell? ⟨g2, o2 + k * 11 + 2, none⟩ = some (.int .u16 yad.g1) ∧ W'.cell? ⟨g2, o2 + k * 11 + 3, none⟩ = some (.int .u16 yad.g2) ∧ W'.cell? ⟨g2, o2 + k * 11 + 4, none⟩ = some (.int .u16 yad.g3) ∧ W'.cell? ⟨g2, o2 + k * 11 + 5, none⟩ = some (.int .u16 yad.g4) ∧ W'.cell? ⟨g2, o2 + k * 11 + 6, none⟩ = some (.int .u16 yad.g5) ∧ W'.cell? ⟨g2, o2 + k * 11 + 7, none⟩ = some (.int .u16 yad.g6) ∧ W'.cell? ⟨g2, o2 + k * 11 + 8, none⟩ = some (.int .u16 yad.g7) ∧ W'.cell? ⟨g2, o2 + k * 11 + 9, none⟩ = some (.int .i64 yad.p) ∧ W'.cell? ⟨g2, o2 + k * 11 + 10, none⟩ = some (.slice ya l.length yc))) ∧ Below wr.heap.size wr W' from fun W' h =>
            have c1 := fun z => h.cell (p := ⟨g1, z, none⟩) hg1
            have c2 := fun z => h.cell (p := ⟨g2, z, none⟩) hg2
            ⟨⟨(HW.out W' (HBy.out.trans (h.mono HBy.out.size))).1, ⟨(c1 _).trans p0, (c1 _).trans p1, (c1 _).trans p2, (c1 _).trans p3, (c1 _).trans p4, (c1 _).trans p5, (c1 _).trans p6, (c1 _).trans p7, (c1 _).trans p8, (c1 _).trans p9, (c1 _).trans p10⟩, (c2 _).trans q0, (c2 _).trans q1, (c2 _).trans q2, (c2 _).trans q3, (c2 _).trans q4, (c2 _).trans q5, (c2 _).trans q6, (c2 _).trans q7, (c2 _).trans q8, (c2 _).trans q9, (c2 _).trans q10⟩, h⟩)
          have HT1 := Lib.hid (fun W' (h : Below wr.heap.size wr W') => text_any l xa xc W' hfit (hR1.below h))
          have HT2 := Lib.hid (fun W' (h : Below wr.heap.size wr W') => text_any l ya yc W' hfit (hR2.below h))
          have hnq := neq_self_ad yad
          have hgd := guard_ad
          clear hbk hz1 hz2 hx1 hx2 hat1 hat2 hR1 hR2 hpp hg1 hg2
          go_upto_region 15 with fail
          clear x0 x1 x2 x3 z0 z1 z2 z3 p0 p1 p2 p3 p4 p5 p6 p7 p8 p9 p10 q0 q1 q2 q3 q4 q5 q6 q7 q8 q9 q10
          go_region_held (fun W' => (((W'.cell? ⟨w.heap.size, 0, none⟩ = some (.slice za P.zones.length zc) ∧ W'.cell? ⟨w.heap.size, 1, none⟩ = some (.slice (some ⟨g1, o1, none⟩) P.fates.length fc) ∧ W'.cell? ⟨w.heap.size, 2, none⟩ = some (.int .i64 P.ticks) ∧ W'.cell? ⟨w.heap.size, 3, none⟩ = some (.slice da P.drops.length dc)) ∧ (W'.cell? ⟨G1, 0, none⟩ = some (.slice zb P.zones.length zd) ∧ W'.cell? ⟨G1, 1, none⟩ = some (.slice (some ⟨g2, o2, none⟩) P.fates.length fd) ∧ W'.cell? ⟨G1, 2, none⟩ = some (.int .i64 P.ticks) ∧ W'.cell? ⟨G1, 3, none⟩ = some (.slice db P.drops.length dd))) ∧ (W'.cell? ⟨g1, o1 + k * 11, none⟩ = some (.int .i8 yad.f) ∧ W'.cell? ⟨g1, o1 + k * 11 + 1, none⟩ = some (.int .u16 yad.g0) ∧ W'.cell? ⟨g1, o1 + k * 11 + 2, none⟩ = some (.int .u16 yad.g1) ∧ W'.cell? ⟨g1, o1 + k * 11 + 3, none⟩ = some (.int .u16 yad.g2) ∧ W'.cell? ⟨g1, o1 + k * 11 + 4, none⟩ = some (.int .u16 yad.g3) ∧ W'.cell? ⟨g1, o1 + k * 11 + 5, none⟩ = some (.int .u16 yad.g4) ∧ W'.cell? ⟨g1, o1 + k * 11 + 6, none⟩ = some (.int .u16 yad.g5) ∧ W'.cell? ⟨g1, o1 + k * 11 + 7, none⟩ = some (.int .u16 yad.g6) ∧ W'.cell? ⟨g1, o1 + k * 11 + 8, none⟩ = some (.int .u16 yad.g7) ∧ W'.cell? ⟨g1, o1 + k * 11 + 9, none⟩ = some (.int .i64 yad.p) ∧ W'.cell? ⟨g1, o1 + k * 11 + 10, none⟩ = some (.slice xa l.length xc)) ∧ (W'.cell? ⟨g2, o2 + k * 11, none⟩ = some (.int .i8 yad.f) ∧ W'.cell? ⟨g2, o2 + k * 11 + 1, none⟩ = some (.int .u16 yad.g0) ∧ W'.cell? ⟨g2, o2 + k * 11 + 2, none⟩ = some (.int .u16 yad.g1) ∧ W'.cell? ⟨g2, o2 + k * 11 + 3, none⟩ = some (.int .u16 yad.g2) ∧ W'.cell? ⟨g2, o2 + k * 11 + 4, none⟩ = some (.int .u16 yad.g3) ∧ W'.cell? ⟨g2, o2 + k * 11 + 5, none⟩ = some (.int .u16 yad.g4) ∧ W'.cell? ⟨g2, o2 + k * 11 + 6, none⟩ = some (.int .u16 yad.g5) ∧ W'.cell? ⟨g2, o2 + k * 11 + 7, none⟩ = some (.int .u16 yad.g6) ∧ W'.cell? ⟨g2, o2 + k * 11 + 8, none⟩ = some (.int .u16 yad.g7) ∧ W'.cell? ⟨g2, o2 + k * 11 + 9, none⟩ = some (.int .i64 yad.p) ∧ W'.cell? ⟨g2, o2 + k * 11 + 10, none⟩ = some (.slice ya l.length yc))) ∧ Below wr.heap.size wr W')
            (first | assumption | exact HC.out _ (Below.refl _ _) | exact HC.out _ (kept_call (by assumption) hbC) | exact HC.out _ (Below.refl _ _).drew)
            (first
              | (go_at_call 79; (with_reducible refine (HT1.out _ (kept_self (by assumption))).mono ?_); rintro e wC ⟨b1, d1, rfl, hRT1, hbC⟩; have hcv1 := conv_now (l := l) hRT1 rfl; try have hcv3 := conv_now (l := l) (hRT2.below hbC) rfl)
              | (go_at_call 79; (with_reducible refine (HT2.out _ (kept_self (by assumption))).mono ?_); rintro e wC ⟨b2, d2, rfl, hRT2, hbC⟩; have hcv2 := conv_now (l := l) hRT2 rfl; try have hcv4 := conv_now (l := l) (hRT1.below hbC) rfl))
          all_goals
            have HBC : Hid (Below wr.heap.size wr wC) := Lib.hid (by first | exact kept_self (by assumption) | exact kept_call (by assumption) hbC | exact kept_call (by assumption) (Below.refl _ wC))
            have HBD := Lib.hid (HBy.out.trans (HBC.out.mono HBy.out.size))
            clear HBC HC HT1 HT2
            go_wp2_with fail
            go_roundw
            case rel => exact ⟨k + 1, by go_num, by omega, by first | exact HBD | exact Lib.hid HBD.out.drew⟩
            case measure => simp [intOf]; omega
        · obtain rfl : k = P.fates.length := by omega
          clear hpp
          have HBF := Lib.hid (HB1.out.trans (HBy.out.mono HB1.out.size))
          go_wp2_with fail
          go_ret
          exact ⟨rfl, HBF.out⟩
end Go.Proofs.Ytciohjgcndgiaaa
