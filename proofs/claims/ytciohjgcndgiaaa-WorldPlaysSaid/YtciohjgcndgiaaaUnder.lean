/- Under: a set of addresses; dials that are not over. -/
import Derived.Test.YtciohjgcndgiaaaBoxes
import Derived.Test.YtciohjgcndgiaaaThose
import Derived.Test.YtciohjgcndgiaaaKeyA
import Derived.Test.YtciohjgcndgiaaaMeth
set_option linter.unusedSimpArgs false
set_option linter.unusedVariables false
namespace Go.Proofs.Ytciohjgcndgiaaa
open Go.RowKit Go.Maps Go.Proofs.Ytciohjgcndgiaaa.Kind

theorem zero_unit (w : World) : (zeroValue 90).run Try.prog w = .ok (.agg #[]) w := by kernel_rfl
set_option maxHeartbeats 8000000 in
set_option maxRecDepth 1000000 in
theorem under_is (y : Di) (hy : okA y.ad) (l : List Ad) (a : Option Addr) (c vb sb mb n : Nat) (D : DataW Unit) (w : World) (hmap : w.ownsMap Try.prog 43 unitElem mb n D) (hset : SetTo l D l.length) (hv : w.heap[vb]? = some (.cells #[.map (some mb)] 89 (0, 0))) (hs : w.heap[sb]? = some (.cells #[.slice a l.length c] 71 (0, 0))) :
    Calls Try.prog 31 #[.agg #[.int .i64 y.by_, .int .i8 y.ad.f, .int .u16 y.ad.g0, .int .u16 y.ad.g1, .int .u16 y.ad.g2, .int .u16 y.ad.g3, .int .u16 y.ad.g4, .int .u16 y.ad.g5, .int .u16 y.ad.g6, .int .u16 y.ad.g7, .int .i64 y.ad.p, .int .i8 y.fate, .bool y.cut, .bool y.over], .pointer (some ⟨vb, 0, none⟩), .pointer (some ⟨sb, 0, none⟩)] w fun e w' => e = .returned (.bool ((l.isEmpty || l.contains y.ad) && !y.over)) ∧ Below w.heap.size w w' := by
  obtain ⟨w1, hw1⟩ : ∃ X, X = w.alloc (.cells #[.int .i64 y.by_, .int .i8 y.ad.f, .int .u16 y.ad.g0, .int .u16 y.ad.g1, .int .u16 y.ad.g2, .int .u16 y.ad.g3, .int .u16 y.ad.g4, .int .u16 y.ad.g5, .int .u16 y.ad.g6, .int .u16 y.ad.g7, .int .i64 y.ad.p, .int .i8 y.fate, .bool y.cut, .bool y.over] 88) := ⟨_, rfl⟩
  have hb := below1 w (.cells #[.int .i64 y.by_, .int .i8 y.ad.f, .int .u16 y.ad.g0, .int .u16 y.ad.g1, .int .u16 y.ad.g2, .int .u16 y.ad.g3, .int .u16 y.ad.g4, .int .u16 y.ad.g5, .int .u16 y.ad.g6, .int .u16 y.ad.g7, .int .i64 y.ad.p, .int .i8 y.fate, .bool y.cut, .bool y.over] 88)
  have hL := laid1 w (.cells #[.int .i64 y.by_, .int .i8 y.ad.f, .int .u16 y.ad.g0, .int .u16 y.ad.g1, .int .u16 y.ad.g2, .int .u16 y.ad.g3, .int .u16 y.ad.g4, .int .u16 y.ad.g5, .int .u16 y.ad.g6, .int .u16 y.ad.g7, .int .i64 y.ad.p, .int .i8 y.fate, .bool y.cut, .bool y.over] 88)
  rw [← hw1] at hb hL
  have HO := Lib.hid (map_below hmap hb)
  have HLw := Lib.hid law_ad
  have HK := Lib.hid (key_ad hy)
  have hh := hset y.ad hy
  rw [List.take_length] at hh
  have hc : l.contains y.ad = decide (y.ad ∈ l) := by simp
  rw [← hc] at hh
  have HH := Lib.hid hh
  have hem : ((l.length : Int) == 0) = l.isEmpty := by cases l <;> simp; omega
  obtain ⟨v0, _⟩ := cell1 ((hb.block _ (lt_of_block hv)).trans hv)
  obtain ⟨s0, _⟩ := cell1 ((hb.block _ (lt_of_block hs)).trans hs)
  obtain ⟨⟨y0, y1, y2, y3, y4, y5, y6, y7, y8, y9, y10, y11, y12, y13⟩, _⟩ := boxes14 hL
  have HB := Lib.hid hb
  have HL := Lib.hid hL
  have Hs := Lib.hid ((hb.block _ (lt_of_block hs)).trans hs)
  clear hmap hset hv hs hh hc hb hL hy
  go_enter Try.func31, Try.ntmps31
  go_upto_region 1 with fail
  rw [← hw1]
  clear hw1
  go_upto_region 2 with (first | (at_lookup; refine wpList_lookup_own_unit _ rfl _ _ 89 rfl 43 90 HLw.out Try.underlying89 (zero_unit _) mb n D rfl HO.out _ _ rfl HK.out ?_) | go_in)
  rw [HH.out]
  clear v0 s0 y0 y1 y2 y3 y4 y5 y6 y7 y8 y9 y10 y11 y12 y13
  have hb2 := below1 w1 (.cells #[] 90)
  obtain ⟨w2, hw2⟩ : ∃ X, X = w1.alloc (.cells #[] 90) := ⟨_, rfl⟩
  rw [← hw2] at hb2 ⊢
  clear hw2
  obtain ⟨s0, _⟩ := cell1 ((hb2.block _ (lt_of_block Hs.out)).trans Hs.out)
  obtain ⟨⟨y0, y1, y2, y3, y4, y5, y6, y7, y8, y9, y10, y11, y12, y13⟩, _⟩ := boxes14 ((hb2.block _ (lt_of_block HL.out)).trans HL.out)
  have HB2 := Lib.hid (HB.out.trans (hb2.mono HB.out.size))
  have Hem := Lib.hid hem
  clear hb2 hem y0 y1 y2 y3 y4 y5 y6 y7 y8 y9 y10 y11 y12
  obtain ⟨q1, hq1⟩ : ∃ q, q = l.contains y.ad := ⟨_, rfl⟩
  rw [← hq1]
  have HQ1 := Lib.hid hq1.symm
  clear hq1
  cases hov : y.over with
  | true =>
    rw [hov] at y13
    have HOv := Lib.hid hov
    clear hov
    go_wp2_with fail
    go_ret
    exact ⟨by rw [HOv.out]; simp, HB2.out⟩
  | false =>
    rw [hov] at y13
    have HOv := Lib.hid hov
    clear hov
    cases q1 with
    | true =>
      go_wp2_with fail
      go_ret
      exact ⟨by rw [HOv.out, HQ1.out]; simp, HB2.out⟩
    | false =>
      obtain ⟨q2, hq2⟩ : ∃ q, q = l.isEmpty := ⟨_, rfl⟩
      have hem := Hem.out
      rw [← hq2] at hem
      have HQ2 := Lib.hid hq2.symm
      clear hq2
      go_wp2_with fail
      go_ret
      exact ⟨by rw [HOv.out, HQ1.out, HQ2.out]; simp, HB2.out⟩

set_option maxHeartbeats 8000000 in
set_option maxRecDepth 1000000 in
theorem those_under (q0 : Di → Bool) (vb sb : Nat) (l : List Di) (m : Nat) (hm : m = l.length) (a : Option Addr) (c : Nat) (w : World) (HC : ∀ y ∈ l, ∀ W, Below w.heap.size w W → Calls Try.prog 31 #[.agg #[.int .i64 y.by_, .int .i8 y.ad.f, .int .u16 y.ad.g0, .int .u16 y.ad.g1, .int .u16 y.ad.g2, .int .u16 y.ad.g3, .int .u16 y.ad.g4, .int .u16 y.ad.g5, .int .u16 y.ad.g6, .int .u16 y.ad.g7, .int .i64 y.ad.p, .int .i8 y.fate, .bool y.cut, .bool y.over], .pointer (some ⟨vb, 0, none⟩), .pointer (some ⟨sb, 0, none⟩)] W fun e w' => e = .returned (.bool (q0 y)) ∧ Below W.heap.size W w') (hR : DK.RowC w a c l) :
    Calls Try.prog 30 #[.slice a m c, .func (.func 31) #[] #[.pointer (some ⟨vb, 0, none⟩), .pointer (some ⟨sb, 0, none⟩)]] w fun e w' => e = .returned (.tuple #[.int .i64 (idxI (fun z => q0 z) l), .int .i64 (l.countP (fun z => q0 z) : Nat)]) ∧ Below w.heap.size w w' := by
  subst hm
  have hlen : (l.length : Int) ≤ 9223372036854775807 := len_intC _ (Nat.le_trans hR.1 hR.2.1)
  have HR := Lib.hid hR
  have HCl := Lib.hid HC
  clear HC
  clear hR
  obtain ⟨q, hq⟩ : ∃ q : Di → Bool, q = (fun z => q0 z) := ⟨_, rfl⟩
  rw [← hq]
  have HQ := Lib.hid (fun z => congrFun hq z)
  clear hq
  go_enter Try.func30, Try.ntmps30
  go_wp2_with fail
  go_loopw [4, 5, 10] (fun r m i wr => ∃ (k : Nat), r = .int .i64 (idxI q (l.take k)) ∧ m = .int .i64 ((l.take k).countP q : Nat) ∧ i = .int .i64 k ∧ k ≤ l.length ∧ Below w.heap.size w wr) (fun _ _ i _ => l.length - (intOf i).toNat)
  case atStart => exact ⟨0, by first | rfl | simp [idxI], by first | rfl | simp, rfl, by omega, Below.refl _ _⟩
  case round =>
    obtain ⟨k, rfl, rfl, rfl, hk, hb⟩ := hrel
    have HB := Lib.hid hb
    have hbs := hb.size
    clear hb
    by_cases hki : k < l.length
    · obtain ⟨y, hy⟩ : ∃ y, l[k]? = some y := ⟨_, List.getElem?_eq_getElem hki⟩
      obtain ⟨b, o, rfl, hbl, hat⟩ := HR.out.2.2.2 (by omega)
      obtain ⟨y0, y1, y2, y3, y4, y5, y6, y7, y8, y9, y10, y11, y12, y13⟩ := DK.cells (hat.below HB.out hbl) hy
      have hkI : (k : Int) < (l.length : Int) := by omega
      have hkw : IntKind.i64.wrap ((k : Int) + 1) = (k : Int) + 1 := by rw [IntKind.wrap_i64]; omega
      have hc1 : (l.take k).countP q ≤ k := Nat.le_trans List.countP_le_length (by simp; omega)
      have hcw : IntKind.i64.wrap (((l.take k).countP q : Nat) + 1 : Int) = ((l.take k).countP q : Nat) + 1 := by rw [IntKind.wrap_i64]; omega
      have hb1 := below1 wr (.cells #[.int .i64 y.by_, .int .i8 y.ad.f, .int .u16 y.ad.g0, .int .u16 y.ad.g1, .int .u16 y.ad.g2, .int .u16 y.ad.g3, .int .u16 y.ad.g4, .int .u16 y.ad.g5, .int .u16 y.ad.g6, .int .u16 y.ad.g7, .int .i64 y.ad.p, .int .i8 y.fate, .bool y.cut, .bool y.over] 88)
      have hL1 := laid1 wr (.cells #[.int .i64 y.by_, .int .i8 y.ad.f, .int .u16 y.ad.g0, .int .u16 y.ad.g1, .int .u16 y.ad.g2, .int .u16 y.ad.g3, .int .u16 y.ad.g4, .int .u16 y.ad.g5, .int .u16 y.ad.g6, .int .u16 y.ad.g7, .int .i64 y.ad.p, .int .i8 y.fate, .bool y.cut, .bool y.over] 88)
      go_upto_region 5 with fail
      obtain ⟨w1, hw1⟩ : ∃ X, X = wr.alloc (.cells #[.int .i64 y.by_, .int .i8 y.ad.f, .int .u16 y.ad.g0, .int .u16 y.ad.g1, .int .u16 y.ad.g2, .int .u16 y.ad.g3, .int .u16 y.ad.g4, .int .u16 y.ad.g5, .int .u16 y.ad.g6, .int .u16 y.ad.g7, .int .i64 y.ad.p, .int .i8 y.fate, .bool y.cut, .bool y.over] 88) := ⟨_, rfl⟩
      rw [← hw1] at hb1 hL1 ⊢
      have hsz : wr.heap.size < w1.heap.size := by rw [hw1]; simp
      clear hw1 y0 y1 y2 y3 y4 y5 y6 y7 y8 y9 y10 y11 y12 y13
      have HB1 := Lib.hid (HB.out.trans (hb1.mono hbs))
      have hB1 := HB1.out
      have HC := Lib.hid (HCl.out y (List.mem_of_getElem? hy) w1 hB1)
      have HX := Lib.hid hy
      clear hy hat hb1
      generalize wr.heap.size = gy at *
      have hld := load_Di hL1
      obtain ⟨⟨z0, z1, z2, z3, z4, z5, z6, z7, z8, z9, z10, z11, z12, z13⟩, _⟩ := boxes14 hL1
      go_wp2_with fail
      rw [← HQ.out y] at HC
      with_reducible refine HC.out.mono ?_
      rintro e w2 ⟨rfl, hb2⟩
      have HB2 := Lib.hid (HB1.out.trans (hb2.mono HB1.out.size))
      clear hb2 HC hld z0 z1 z2 z3 z4 z5 z6 z7 z8 z9 z10 z11 z12 z13 hB1 hL1
      cases hp : q y with
      | false =>
        have HN := Lib.hid (idxI_skip HX.out hp)
        have HM := Lib.hid (count_skip HX.out hp)
        clear hp
        go_wp2_with fail
        go_roundw
        case rel => exact ⟨k + 1, by rw [HN.out], by rw [HM.out], by go_num, by omega, HB2.out⟩
        case measure => simp [intOf]; omega
      | true =>
        have HN := Lib.hid (idxI_hit HX.out hp)
        have HM := Lib.hid (count_hit HX.out hp)
        clear hp
        by_cases h0 : (l.take k).countP q = 0
        · have hz : ((((l.take k).countP q : Nat) : Int) == 0) = true := by rw [h0]; rfl
          have HZ := Lib.hid h0
          clear h0
          go_wp2_with fail
          go_roundw
          case rel => exact ⟨k + 1, by rw [HN.out, if_pos HZ.out], by rw [HM.out]; go_num, by go_num, by omega, HB2.out⟩
          case measure => simp [intOf]; omega
        · have hz : ((((l.take k).countP q : Nat) : Int) == 0) = false := by simp only [beq_eq_false_iff_ne, ne_eq]; omega
          have HZ := Lib.hid h0
          clear h0
          go_wp2_with fail
          go_roundw
          case rel => exact ⟨k + 1, by rw [HN.out, if_neg HZ.out], by rw [HM.out]; go_num, by go_num, by omega, HB2.out⟩
          case measure => simp [intOf]; omega
    · obtain rfl : k = l.length := by omega
      go_wp2_with fail
      go_ret2
      exact ⟨by first | rfl | (simp [List.take_length]; done) | (rw [List.take_length]; rfl), HB.out⟩

set_option maxHeartbeats 8000000 in
set_option maxRecDepth 1000000 in
theorem under_any (A : Wo) (v : Wv) (l : List Ad) (a : Option Addr) (c : Nat) (w : World) (r : Int) (hl : l.length ≤ 400) (hol : ∀ x ∈ l, okA x) (hoD : ∀ d ∈ A.dials, okA d.ad) (hA : WorldC w v A) (ha : AK.RowC w a c l) (hr : r = (underP A l : Int)) :
    Calls Try.prog 12 #[v.val A, .slice a l.length c] w (RetI w r) := by
  have HA := Lib.hid hA.dials
  have HR := Lib.hid ha
  have HOl := Lib.hid hol
  have HOD := Lib.hid hoD
  have hUn : underP A l = A.dials.countP (fun d => (l.isEmpty || l.contains d.ad) && !d.over) := rfl
  rw [hUn] at hr
  obtain ⟨q0, hq0⟩ : ∃ q0 : Di → Bool, q0 = (fun d => (l.isEmpty || l.contains d.ad) && !d.over) := ⟨_, rfl⟩
  rw [← hq0] at hr
  have HQ0 := Lib.hid hq0
  have HLw := Lib.hid law_ad
  have hmm := @run_makeMap Try.prog
  clear hA ha hol hoD hUn hq0
  simp only [Wv.val, Wv.cells]
  have hb := below2 w (.cells #[.slice v.p.za A.plan.zones.length v.p.zc, .slice v.p.fa A.plan.fates.length v.p.fc, .int .i64 A.plan.ticks, .slice v.p.da A.plan.drops.length v.p.dc, .int .i64 A.clock, .slice v.sa A.socks.length v.sc, .slice v.ia A.dials.length v.ic, .slice v.la A.looks.length v.lc, .int .i64 A.dropped, .slice v.ma A.marks.length v.mc] 33) (.cells #[.slice a l.length c] 71)
  have hL := laid2 w (.cells #[.slice v.p.za A.plan.zones.length v.p.zc, .slice v.p.fa A.plan.fates.length v.p.fc, .int .i64 A.plan.ticks, .slice v.p.da A.plan.drops.length v.p.dc, .int .i64 A.clock, .slice v.sa A.socks.length v.sc, .slice v.ia A.dials.length v.ic, .slice v.la A.looks.length v.lc, .int .i64 A.dropped, .slice v.ma A.marks.length v.mc] 33) (.cells #[.slice a l.length c] 71)
  go_enter Try.func12, Try.ntmps12
  go_upto_region 1 with fail
  obtain ⟨w1, hw1⟩ : ∃ X, X = (w.alloc (.cells #[.slice v.p.za A.plan.zones.length v.p.zc, .slice v.p.fa A.plan.fates.length v.p.fc, .int .i64 A.plan.ticks, .slice v.p.da A.plan.drops.length v.p.dc, .int .i64 A.clock, .slice v.sa A.socks.length v.sc, .slice v.ia A.dials.length v.ic, .slice v.la A.looks.length v.lc, .int .i64 A.dropped, .slice v.ma A.marks.length v.mc] 33)).alloc (.cells #[.slice a l.length c] 71) := ⟨_, rfl⟩
  rw [← hw1] at hb hL ⊢
  clear hw1
  generalize hG1 : w.heap.size + 1 = sb at hL ⊢
  have HB := Lib.hid hb
  have Hw := Lib.hid hL.1
  have Hs := Lib.hid hL.2
  clear hL hb hG1
  have HO0 := Lib.hid (World.ownsMap_made w1 Try.prog 43 (unitElem (H := Unit)))
  go_upto_region 2 with fail
  have hb := below2 w1 (.map #[] 0) (.cells #[.map (some w1.heap.size)] 89)
  have hL := laid2 w1 (.map #[] 0) (.cells #[.map (some w1.heap.size)] 89)
  have HOn := Lib.hid (map_below HO0 (below1 (w1.alloc (.map #[] 0)) (.cells #[.map (some w1.heap.size)] 89)))
  obtain ⟨w2, hw2⟩ : ∃ X, X = (w1.alloc (.map #[] 0)).alloc (.cells #[.map (some w1.heap.size)] 89) := ⟨_, rfl⟩
  rw [← hw2] at hb hL HOn ⊢
  clear hw2 HO0
  obtain ⟨mb, hmb⟩ : ∃ k, k = w1.heap.size := ⟨_, rfl⟩
  rw [← hmb] at hL HOn ⊢
  obtain ⟨vb, hvb⟩ : ∃ k, k = mb + 1 := ⟨_, rfl⟩
  rw [← hvb] at hL ⊢
  have Hv := Lib.hid hL.2
  have hbm : w.heap.size ≤ mb := by rw [hmb]; exact HB.out.size
  replace Hw := Lib.hid ((hb.block _ (lt_of_block Hw.out)).trans Hw.out)
  replace Hs := Lib.hid ((hb.block _ (lt_of_block Hs.out)).trans Hs.out)
  replace HB := Lib.hid (HB.out.trans (hb.mono HB.out.size))
  have hvm : vb ≠ mb := by omega
  have hsm : sb < w2.heap.size := lt_of_block Hs.out
  have hsmb : sb ≠ mb := by have := hb.size; have h9 := lt_of_block Hs.out; intro e; subst e; have := hL.1; rw [Hs.out] at this; cases this
  have hwmb : w.heap.size ≠ mb := by intro e; have := hL.1; rw [← e, Hw.out] at this; cases this
  clear hb hL hmb hvb hmm
  have hlI : (l.length : Int) ≤ 400 := by omega
  obtain ⟨s0, _⟩ := cell1 Hs.out
  go_upto_region 3 with fail
  clear s0
  go_loopw [13] (fun i wr => ∃ (k : Nat) (D : DataW Unit), i = .int .i64 k ∧ k ≤ l.length ∧ Hid (wr.ownsMap Try.prog 43 unitElem mb k D) ∧ Hid (SetTo l D k) ∧ Hid (wr.heap[vb]? = some (.cells #[.map (some mb)] 89 (0, 0))) ∧ Hid (wr.heap[sb]? = some (.cells #[.slice a l.length c] 71 (0, 0))) ∧ Hid (wr.heap[w.heap.size]? = some (.cells #[.slice v.p.za A.plan.zones.length v.p.zc, .slice v.p.fa A.plan.fates.length v.p.fc, .int .i64 A.plan.ticks, .slice v.p.da A.plan.drops.length v.p.dc, .int .i64 A.clock, .slice v.sa A.socks.length v.sc, .slice v.ia A.dials.length v.ic, .slice v.la A.looks.length v.lc, .int .i64 A.dropped, .slice v.ma A.marks.length v.mc] 33 (0, 0))) ∧ Hid (Below w.heap.size w wr)) (fun i _ => l.length - (intOf i).toNat)
  case atStart => exact ⟨0, _, rfl, by omega, HOn, Lib.hid (setTo_zero l), Hv, Hs, Hw, HB⟩
  case round =>
    clear HOn Hv Hs Hw HB
    obtain ⟨k, D, rfl, hk, HO, HH, Hv, Hs, Hw, HB⟩ := hrel
    by_cases hki : k < l.length
    · obtain ⟨b, hbz⟩ : ∃ b, l[k]? = some b := ⟨_, List.getElem?_eq_getElem hki⟩
      have hkI : (k : Int) < (l.length : Int) := by omega
      have hkw : IntKind.i64.wrap ((k : Int) + 1) = (k : Int) + 1 := by rw [IntKind.wrap_i64]; omega
      obtain ⟨g, o, hae, hgl, hat⟩ := (HR.out.below HB.out).2.2.2 (by omega)
      obtain ⟨⟨z0, z1, z2, z3, z4⟩, z5, z6, z7, z8, z9⟩ := AK.ten hat hbz
      have HOa := Lib.hid (HOl.out b (List.mem_of_getElem? hbz))
      have HK := Lib.hid (key_ad HOa.out)
      have HX := Lib.hid hbz
      have HIs := Lib.hid ((HO.out.tidy HLw.out).isMap)
      have HOb := Lib.hid (HO.out.alloc (.cells #[.int .i8 b.f, .int .u16 b.g0, .int .u16 b.g1, .int .u16 b.g2, .int .u16 b.g3, .int .u16 b.g4, .int .u16 b.g5, .int .u16 b.g6, .int .u16 b.g7, .int .i64 b.p] 43))
      have Hae := Lib.hid hae
      clear hat hbz
      rw [hae]
      clear hae
      go_upto_region 5 with fail
      have hbU := below1 wr (.cells #[.int .i8 b.f, .int .u16 b.g0, .int .u16 b.g1, .int .u16 b.g2, .int .u16 b.g3, .int .u16 b.g4, .int .u16 b.g5, .int .u16 b.g6, .int .u16 b.g7, .int .i64 b.p] 43)
      have hlU := laid1 wr (.cells #[.int .i8 b.f, .int .u16 b.g0, .int .u16 b.g1, .int .u16 b.g2, .int .u16 b.g3, .int .u16 b.g4, .int .u16 b.g5, .int .u16 b.g6, .int .u16 b.g7, .int .i64 b.p] 43)
      obtain ⟨w3, hw3⟩ : ∃ X, X = wr.alloc (.cells #[.int .i8 b.f, .int .u16 b.g0, .int .u16 b.g1, .int .u16 b.g2, .int .u16 b.g3, .int .u16 b.g4, .int .u16 b.g5, .int .u16 b.g6, .int .u16 b.g7, .int .i64 b.p] 43) := ⟨_, rfl⟩
      rw [← hw3] at hbU hlU HOb ⊢
      clear hw3 z0 z1 z2 z3 z4 z5 z6 z7 z8 z9
      generalize wr.heap.size = gb at hlU ⊢
      replace Hv := Lib.hid ((hbU.block _ (lt_of_block Hv.out)).trans Hv.out)
      replace Hs := Lib.hid ((hbU.block _ (lt_of_block Hs.out)).trans Hs.out)
      replace Hw := Lib.hid ((hbU.block _ (lt_of_block Hw.out)).trans Hw.out)
      replace HB := Lib.hid (HB.out.trans (hbU.mono HB.out.size))
      obtain ⟨v0, _⟩ := cell1 Hv.out
      obtain ⟨⟨z0, z1, z2, z3, z4⟩, z5, z6, z7, z8, z9⟩ := box10 hlU
      have hld := load10 hlU
      clear hbU hlU
      go_wp2_with (first | (at_mapUpdate; refine wpList_mapUpdate_own _ rfl _ _ _ 89 rfl 43 90 HLw.out Try.underlying89 _ mb k D rfl HOb.out (by unfold maxLen; omega) _ _ _ rfl rfl HK.out _ [] unitElem_mk ?_; intro w5 hown hgrow) | go_in)
      have HBn := Lib.hid (HB.out.grown hgrow HB.out.size (fun j hj => by cases hj; exact hbm))
      have HOn := Lib.hid hown
      have hblk : ∀ x o, w3.heap[x]? = some o → x ≠ mb → w5.heap[x]? = some o := fun x o h hne => (hgrow.block x (lt_heap' h) (fun e => by injection e with e; first | exact hne e | exact hne e.symm)).trans h
      have Hv5 := Lib.hid (hblk _ _ Hv.out hvm)
      have Hs5 := Lib.hid (hblk _ _ Hs.out hsmb)
      have Hw5 := Lib.hid (hblk _ _ Hw.out hwmb)
      clear hown hgrow hblk v0 z0 z1 z2 z3 z4 z5 z6 z7 z8 z9 hld
      rw [← Hae.out]
      go_roundw
      case rel => exact ⟨k + 1, _, by go_num, by omega, HOn, Lib.hid (setTo_step HH.out HIs.out HX.out HOa.out), Hv5, Hs5, Hw5, HBn⟩
      case measure => simp [intOf]; omega
    · obtain rfl : k = l.length := by omega
      have HX := Lib.hid (those_under q0 vb sb A.dials A.dials.length rfl v.ia v.ic wr (fun y hy W hW => by
        have h := under_is y (HOD.out y hy) l a c vb sb mb l.length D W (map_below HO.out hW) HH.out ((hW.block _ (lt_of_block Hv.out)).trans Hv.out) ((hW.block _ (lt_of_block Hs.out)).trans Hs.out)
        rw [HQ0.out]
        exact h) (HA.out.below HB.out))
      rw [← hr] at HX
      obtain ⟨⟨x0, x1, x2, x3, x4, x5, x6, x7, x8, x9⟩, _⟩ := boxes10 Hw.out
      clear hr
      go_wp2_with fail
      with_reducible refine HX.out.mono ?_
      rintro e w6 ⟨rfl, hb6⟩
      have HB6 := Lib.hid (HB.out.trans (hb6.mono HB.out.size))
      clear hb6 x0 x1 x2 x3 x4 x5 x6 x7 x8 x9 HX
      go_wp2_with fail
      go_ret
      exact ⟨rfl, HB6.out⟩
end Go.Proofs.Ytciohjgcndgiaaa
