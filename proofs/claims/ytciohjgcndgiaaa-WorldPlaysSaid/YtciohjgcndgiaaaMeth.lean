/- Methods of the landed world that look. -/
import Derived.Test.YtciohjgcndgiaaaSpecs
import Derived.Test.YtciohjgcndgiaaaThose
set_option linter.unusedSimpArgs false
set_option linter.unusedVariables false
namespace Go.Proofs.Ytciohjgcndgiaaa
open Go.RowKit Go.Proofs.Ytciohjgcndgiaaa.Kind

theorem loadS {w : World} {v : Wv} {A : Wo} {b : Nat} {t : TypeId} (h : w.heap[b]? = some (.cells #[.slice v.p.za A.plan.zones.length v.p.zc, .slice v.p.fa A.plan.fates.length v.p.fc, .int .i64 A.plan.ticks, .slice v.p.da A.plan.drops.length v.p.dc, .int .i64 A.clock, .slice v.sa A.socks.length v.sc, .slice v.ia A.dials.length v.ic, .slice v.la A.looks.length v.lc, .int .i64 A.dropped, .slice v.ma A.marks.length v.mc] t (0, 0))) :
    (loadVar 80 ⟨b, 0, none⟩).run Try.prog w = .ok (.agg #[.slice v.p.za A.plan.zones.length v.p.zc, .slice v.p.fa A.plan.fates.length v.p.fc, .int .i64 A.plan.ticks, .slice v.p.da A.plan.drops.length v.p.dc, .int .i64 A.clock, .slice v.sa A.socks.length v.sc, .slice v.ia A.dials.length v.ic, .slice v.la A.looks.length v.lc, .int .i64 A.dropped, .slice v.ma A.marks.length v.mc]) w := by
  obtain ⟨⟨h0, h1, h2, h3, h4, h5, h6, h7, h8, h9⟩, _⟩ := boxes10 h
  have ag1 := Try.isAgg33
  have sz1 := Try.sizeOf33
  have ag2 := Try.isAgg26
  have sz2 := Try.sizeOf26
  have ag3 := Try.isAgg80
  have sz3 := Try.sizeOf80
  clear h
  simp [loadVar, go_sem, *]
theorem loadW2 {w : World} {v : Wv} {A : Wo} {b : Nat} {t : TypeId} (h : w.heap[b]? = some (.cells #[.slice v.p.za A.plan.zones.length v.p.zc, .slice v.p.fa A.plan.fates.length v.p.fc, .int .i64 A.plan.ticks, .slice v.p.da A.plan.drops.length v.p.dc, .int .i64 A.clock, .slice v.sa A.socks.length v.sc, .slice v.ia A.dials.length v.ic, .slice v.la A.looks.length v.lc, .int .i64 A.dropped, .slice v.ma A.marks.length v.mc] t (0, 0))) :
    (loadVar 33 ⟨b, 0, none⟩).run Try.prog w = .ok (.agg #[.slice v.p.za A.plan.zones.length v.p.zc, .slice v.p.fa A.plan.fates.length v.p.fc, .int .i64 A.plan.ticks, .slice v.p.da A.plan.drops.length v.p.dc, .int .i64 A.clock, .slice v.sa A.socks.length v.sc, .slice v.ia A.dials.length v.ic, .slice v.la A.looks.length v.lc, .int .i64 A.dropped, .slice v.ma A.marks.length v.mc]) w := by
  obtain ⟨⟨h0, h1, h2, h3, h4, h5, h6, h7, h8, h9⟩, _⟩ := boxes10 h
  have ag1 := Try.isAgg33
  have sz1 := Try.sizeOf33
  have ag2 := Try.isAgg26
  have sz2 := Try.sizeOf26
  have ag3 := Try.isAgg80
  have sz3 := Try.sizeOf80
  clear h
  simp [loadVar, go_sem, *]
/-- By's own one among those: where it is, if there is one. -/
theorem idx_of {α : Type} {q : α → Bool} {l : List α} (h : (l[l.findIdx q]?).isSome = true) : ∃ d, l[l.findIdx q]? = some d ∧ q d = true ∧ idxI q l = (l.findIdx q : Nat) ∧ l.findIdx q < l.length := by
  obtain ⟨d, hd⟩ := Option.isSome_iff_exists.1 h
  obtain ⟨hlt, e⟩ := List.getElem?_eq_some_iff.1 hd
  have hq : q d = true := by rw [← e]; exact List.findIdx_getElem
  refine ⟨d, hd, hq, idxI_at hd hq (fun j y hj hy => ?_), hlt⟩
  obtain ⟨h1, h2⟩ := List.getElem?_eq_some_iff.1 hy
  rw [← h2]
  simpa using List.not_of_lt_findIdx hj
theorem idx_non {α : Type} {q : α → Bool} {l : List α} (h : l[l.findIdx q]? = none) : idxI q l = -1 := by
  refine idxI_none (fun j y hj hy => ?_)
  obtain ⟨h1, h2⟩ := List.getElem?_eq_some_iff.1 hy
  rw [← h2]
  have := List.getElem?_eq_none_iff.1 h
  simpa using List.not_of_lt_findIdx (Nat.lt_of_lt_of_le hj this)
theorem dial_none {A : Wo} {y : Int} (h : dialOf A y = none) : idxI (fun d : Di => decide (d.by_ = y)) A.dials = -1 := idx_non h
theorem dial_some {A : Wo} {y : Int} {d : Di} (h : dialOf A y = some d) : A.dials[dialIx A y]? = some d ∧ d.by_ = y ∧ idxI (fun d : Di => decide (d.by_ = y)) A.dials = (dialIx A y : Nat) ∧ dialIx A y < A.dials.length := by
  obtain ⟨d', h1, h2, h3, h4⟩ := idx_of (q := byB y) (l := A.dials) (by have h' := h; unfold dialOf dialIx at h'; rw [h']; rfl)
  have h' : A.dials[dialIx A y]? = some d := h
  have h1' : A.dials[dialIx A y]? = some d' := h1
  rw [h'] at h1'
  cases h1'
  exact ⟨h', by simpa [byB] using h2, h3, h4⟩
theorem look_none {A : Wo} {y : Int} (h : lookOf A y = none) : idxI (fun d : Lo => decide (d.by_ = y)) A.looks = -1 := idx_non h
theorem look_some {A : Wo} {y : Int} {d : Lo} (h : lookOf A y = some d) : A.looks[lookIx A y]? = some d ∧ d.by_ = y ∧ idxI (fun d : Lo => decide (d.by_ = y)) A.looks = (lookIx A y : Nat) ∧ lookIx A y < A.looks.length := by
  obtain ⟨d', h1, h2, h3, h4⟩ := idx_of (q := lookB y) (l := A.looks) (by have h' := h; unfold lookOf lookIx at h'; rw [h']; rfl)
  have h' : A.looks[lookIx A y]? = some d := h
  have h1' : A.looks[lookIx A y]? = some d' := h1
  rw [h'] at h1'
  cases h1'
  exact ⟨h', by simpa [lookB] using h2, h3, h4⟩
set_option maxHeartbeats 4000000 in
set_option maxRecDepth 1000000 in
theorem dialOf_any (A : Wo) (v : Wv) (y : Int) (w : World) (hR : DK.RowC w v.ia v.ic A.dials) :
    Calls Try.prog 27 #[v.val A, .int .i64 y] w (RetI w (idxI (fun d : Di => decide (d.by_ = y)) A.dials)) := by
  have HR := Lib.hid hR
  clear hR
  simp only [Wv.val, Wv.cells, Ad.v]
  have hb := below2 w (.cells #[.slice v.p.za A.plan.zones.length v.p.zc, .slice v.p.fa A.plan.fates.length v.p.fc, .int .i64 A.plan.ticks, .slice v.p.da A.plan.drops.length v.p.dc, .int .i64 A.clock, .slice v.sa A.socks.length v.sc, .slice v.ia A.dials.length v.ic, .slice v.la A.looks.length v.lc, .int .i64 A.dropped, .slice v.ma A.marks.length v.mc] 80) (.cells #[.int .i64 y] 3)
  have hL := laid2 w (.cells #[.slice v.p.za A.plan.zones.length v.p.zc, .slice v.p.fa A.plan.fates.length v.p.fc, .int .i64 A.plan.ticks, .slice v.p.da A.plan.drops.length v.p.dc, .int .i64 A.clock, .slice v.sa A.socks.length v.sc, .slice v.ia A.dials.length v.ic, .slice v.la A.looks.length v.lc, .int .i64 A.dropped, .slice v.ma A.marks.length v.mc] 80) (.cells #[.int .i64 y] 3)
  go_enter Try.func27, Try.ntmps27
  go_upto_region 1 with fail
  obtain ⟨w1, hw1⟩ : ∃ X, X = (w.alloc (.cells #[.slice v.p.za A.plan.zones.length v.p.zc, .slice v.p.fa A.plan.fates.length v.p.fc, .int .i64 A.plan.ticks, .slice v.p.da A.plan.drops.length v.p.dc, .int .i64 A.clock, .slice v.sa A.socks.length v.sc, .slice v.ia A.dials.length v.ic, .slice v.la A.looks.length v.lc, .int .i64 A.dropped, .slice v.ma A.marks.length v.mc] 80)).alloc (.cells #[.int .i64 y] 3) := ⟨_, rfl⟩
  rw [← hw1] at hb hL ⊢
  clear hw1
  generalize hG1 : w.heap.size + 1 = G1 at *
  have HX := Lib.hid (those_by y G1 _ A.dials A.dials.length rfl v.ia v.ic w1 hL.2 (HR.out.below hb))
  have HB := Lib.hid hb
  obtain ⟨⟨x0, x1, x2, x3, x4, x5, x6, x7, x8, x9⟩, _⟩ := boxes10 hL.1
  clear hL hb
  go_wp2_with fail
  with_reducible refine HX.out.mono ?_
  rintro e w2 ⟨rfl, hb2⟩
  have HB2 := Lib.hid (HB.out.trans (hb2.mono HB.out.size))
  clear hb2 x0 x1 x2 x3 x4 x5 x6 x7 x8 x9 HX
  go_wp2_with fail
  go_ret
  exact ⟨rfl, HB2.out⟩

set_option maxHeartbeats 4000000 in
set_option maxRecDepth 1000000 in
theorem dialsTo_any (A : Wo) (v : Wv) (x : Ad) (w : World) (hR : DK.RowC w v.ia v.ic A.dials) :
    Calls Try.prog 29 #[v.val A, x.v] w (RetI w ((A.dials.countP (fun d : Di => decide (d.ad = x)) : Nat) : Int)) := by
  have HR := Lib.hid hR
  clear hR
  simp only [Wv.val, Wv.cells, Ad.v]
  have hb := below2 w (.cells #[.slice v.p.za A.plan.zones.length v.p.zc, .slice v.p.fa A.plan.fates.length v.p.fc, .int .i64 A.plan.ticks, .slice v.p.da A.plan.drops.length v.p.dc, .int .i64 A.clock, .slice v.sa A.socks.length v.sc, .slice v.ia A.dials.length v.ic, .slice v.la A.looks.length v.lc, .int .i64 A.dropped, .slice v.ma A.marks.length v.mc] 80) (.cells #[.int .i8 x.f, .int .u16 x.g0, .int .u16 x.g1, .int .u16 x.g2, .int .u16 x.g3, .int .u16 x.g4, .int .u16 x.g5, .int .u16 x.g6, .int .u16 x.g7, .int .i64 x.p] 43)
  have hL := laid2 w (.cells #[.slice v.p.za A.plan.zones.length v.p.zc, .slice v.p.fa A.plan.fates.length v.p.fc, .int .i64 A.plan.ticks, .slice v.p.da A.plan.drops.length v.p.dc, .int .i64 A.clock, .slice v.sa A.socks.length v.sc, .slice v.ia A.dials.length v.ic, .slice v.la A.looks.length v.lc, .int .i64 A.dropped, .slice v.ma A.marks.length v.mc] 80) (.cells #[.int .i8 x.f, .int .u16 x.g0, .int .u16 x.g1, .int .u16 x.g2, .int .u16 x.g3, .int .u16 x.g4, .int .u16 x.g5, .int .u16 x.g6, .int .u16 x.g7, .int .i64 x.p] 43)
  go_enter Try.func29, Try.ntmps29
  go_upto_region 1 with fail
  obtain ⟨w1, hw1⟩ : ∃ X, X = (w.alloc (.cells #[.slice v.p.za A.plan.zones.length v.p.zc, .slice v.p.fa A.plan.fates.length v.p.fc, .int .i64 A.plan.ticks, .slice v.p.da A.plan.drops.length v.p.dc, .int .i64 A.clock, .slice v.sa A.socks.length v.sc, .slice v.ia A.dials.length v.ic, .slice v.la A.looks.length v.lc, .int .i64 A.dropped, .slice v.ma A.marks.length v.mc] 80)).alloc (.cells #[.int .i8 x.f, .int .u16 x.g0, .int .u16 x.g1, .int .u16 x.g2, .int .u16 x.g3, .int .u16 x.g4, .int .u16 x.g5, .int .u16 x.g6, .int .u16 x.g7, .int .i64 x.p] 43) := ⟨_, rfl⟩
  rw [← hw1] at hb hL ⊢
  clear hw1
  generalize hG1 : w.heap.size + 1 = G1 at *
  have HX := Lib.hid (those_to x G1 _ A.dials A.dials.length rfl v.ia v.ic w1 hL.2 (HR.out.below hb))
  have HB := Lib.hid hb
  obtain ⟨⟨x0, x1, x2, x3, x4, x5, x6, x7, x8, x9⟩, _⟩ := boxes10 hL.1
  clear hL hb
  go_wp2_with fail
  with_reducible refine HX.out.mono ?_
  rintro e w2 ⟨rfl, hb2⟩
  have HB2 := Lib.hid (HB.out.trans (hb2.mono HB.out.size))
  clear hb2 x0 x1 x2 x3 x4 x5 x6 x7 x8 x9 HX
  go_wp2_with fail
  go_ret
  exact ⟨rfl, HB2.out⟩

def comesB (x : Di) : Bool := decide (x.fate = 0) || decide (x.fate = 1) || (decide (x.fate = 2) && x.cut)
set_option maxHeartbeats 4000000 in
set_option maxRecDepth 1000000 in
theorem comes_any (x : Di) (r : Bool) (hr : r = comesB x) (w : World) :
    Calls Try.prog 65 #[.agg #[.int .i64 x.by_, .int .i8 x.ad.f, .int .u16 x.ad.g0, .int .u16 x.ad.g1, .int .u16 x.ad.g2, .int .u16 x.ad.g3, .int .u16 x.ad.g4, .int .u16 x.ad.g5, .int .u16 x.ad.g6, .int .u16 x.ad.g7, .int .i64 x.ad.p, .int .i8 x.fate, .bool x.cut, .bool x.over]] w (RetB w r) := by
  unfold comesB at hr
  by_cases h0 : x.fate = 0
  · obtain rfl : r = true := by rw [hr]; simp [h0]
    clear hr
    go_enter Try.func65, Try.ntmps65
    go_wp2_with fail
    go_ret
    exact ⟨rfl, below1 w _⟩
  · have hf0 : (x.fate == 0) = false := by simp [h0]
    by_cases h1 : x.fate = 1
    · obtain rfl : r = true := by rw [hr]; simp [h1]
      clear hr
      go_enter Try.func65, Try.ntmps65
      go_wp2_with fail
      go_ret
      exact ⟨rfl, below1 w _⟩
    · have hf1 : (x.fate == 1) = false := by simp [h1]
      by_cases h2 : x.fate = 2
      · obtain rfl : r = x.cut := by rw [hr]; simp [h2]
        clear hr
        go_enter Try.func65, Try.ntmps65
        go_wp2_with fail
        go_ret
        exact ⟨rfl, below1 w _⟩
      · have hf2 : (x.fate == 2) = false := by simp [h2]
        obtain rfl : r = false := by rw [hr]; simp [h0, h1, h2]
        clear hr
        go_enter Try.func65, Try.ntmps65
        go_wp2_with fail
        go_ret
        exact ⟨rfl, below1 w _⟩

set_option maxHeartbeats 8000000 in
set_option maxRecDepth 1000000 in
theorem ready_any (A : Wo) (v : Wv) (y : Int) (r : Bool) (hr : r = readyP A y) (w : World) (hR : DK.RowC w v.ia v.ic A.dials) :
    Calls Try.prog 32 #[v.val A, .int .i64 y] w (RetB w r) := by
  have HR := Lib.hid hR
  obtain ⟨ix, hix⟩ : ∃ X, X = idxI (fun d : Di => decide (d.by_ = y)) A.dials := ⟨_, rfl⟩
  have HD := Lib.hid (fun W (h : DK.RowC W v.ia v.ic A.dials) => hix ▸ dialOf_any A v y W h)
  have hlm : A.dials.length ≤ 9223372036854775807 := row_max hR
  clear hR
  simp only [Wv.val, Wv.cells] at HD ⊢
  have hb := below1 w (.cells #[.slice v.p.za A.plan.zones.length v.p.zc, .slice v.p.fa A.plan.fates.length v.p.fc, .int .i64 A.plan.ticks, .slice v.p.da A.plan.drops.length v.p.dc, .int .i64 A.clock, .slice v.sa A.socks.length v.sc, .slice v.ia A.dials.length v.ic, .slice v.la A.looks.length v.lc, .int .i64 A.dropped, .slice v.ma A.marks.length v.mc] 80)
  have hL := laid1 w (.cells #[.slice v.p.za A.plan.zones.length v.p.zc, .slice v.p.fa A.plan.fates.length v.p.fc, .int .i64 A.plan.ticks, .slice v.p.da A.plan.drops.length v.p.dc, .int .i64 A.clock, .slice v.sa A.socks.length v.sc, .slice v.ia A.dials.length v.ic, .slice v.la A.looks.length v.lc, .int .i64 A.dropped, .slice v.ma A.marks.length v.mc] 80)
  go_enter Try.func32, Try.ntmps32
  go_upto_region 1 with fail
  obtain ⟨w1, hw1⟩ : ∃ X, X = w.alloc (.cells #[.slice v.p.za A.plan.zones.length v.p.zc, .slice v.p.fa A.plan.fates.length v.p.fc, .int .i64 A.plan.ticks, .slice v.p.da A.plan.drops.length v.p.dc, .int .i64 A.clock, .slice v.sa A.socks.length v.sc, .slice v.ia A.dials.length v.ic, .slice v.la A.looks.length v.lc, .int .i64 A.dropped, .slice v.ma A.marks.length v.mc] 80) := ⟨_, rfl⟩
  rw [← hw1] at hb hL ⊢
  clear hw1
  have HX := Lib.hid (HD.out w1 (HR.out.below hb))
  have HB := Lib.hid hb
  have HL := Lib.hid hL
  have hld := loadS (v := v) (A := A) hL
  clear hL hb HD
  obtain ⟨⟨x0, x1, x2, x3, x4, x5, x6, x7, x8, x9⟩, _⟩ := boxes10 HL.out
  go_wp2_with fail
  with_reducible refine HX.out.mono ?_
  rintro e w2 ⟨rfl, hb2⟩
  have HB2 := Lib.hid (HB.out.trans (hb2.mono HB.out.size))
  have HL2 := Lib.hid ((hb2.block _ (lt_of_block HL.out)).trans HL.out)
  clear hb2 x0 x1 x2 x3 x4 x5 x6 x7 x8 x9 HX HL hld HB
  obtain ⟨⟨x0, x1, x2, x3, x4, x5, x6, x7, x8, x9⟩, _⟩ := boxes10 HL2.out
  cases hof : dialOf A y with
  | none =>
    obtain rfl : ix = -1 := by rw [hix]; exact dial_none hof
    obtain rfl : r = false := by rw [hr]; unfold readyP; rw [hof]
    clear hix hr hof
    go_wp2_with fail
    go_ret
    exact ⟨rfl, HB2.out⟩
  | some x =>
    obtain ⟨hx, hby, hi, hlt⟩ := dial_some hof
    obtain rfl : ix = (dialIx A y : Nat) := by rw [hix]; exact hi
    have hrr : r = readyD x := by rw [hr]; unfold readyP; rw [hof]
    clear hix hr hi hof
    generalize dialIx A y = k at *
    have hkI : (k : Int) < (A.dials.length : Int) := by omega
    have hk0 : (0 : Int) ≤ (k : Int) := by omega
    have hkd : decide ((0 : Int) ≤ (k : Int)) = true := by simp
    obtain ⟨b, o, hva, hbl, hat⟩ := (HR.out.below HB2.out).2.2.2 (by omega)
    obtain ⟨y0, y1, y2, y3, y4, y5, y6, y7, y8, y9, y10, y11, y12, y13⟩ := DK.cells hat hx
    rw [hva] at x6
    clear hat hva hbl hx hby
    cases hov : x.over with
    | true =>
      rw [hov] at y13
      obtain rfl : r = false := by rw [hrr]; unfold readyD; rw [hov]; rfl
      clear hrr
      go_wp2_with fail
      go_ret
      exact ⟨rfl, HB2.out⟩
    | false =>
      have HC := Lib.hid (comes_any x r (by rw [hrr]; unfold readyD comesB; rw [hov]; rfl) w2)
      rw [hov] at y13 HC
      clear hrr
      go_wp2_with fail
      with_reducible refine HC.out.mono ?_
      rintro e w3 ⟨rfl, hb3⟩
      have HB3 := Lib.hid (HB2.out.trans (hb3.mono HB2.out.size))
      clear hb3 HC
      go_wp2_with fail
      go_ret
      exact ⟨by first | rfl | simp, HB3.out⟩

set_option maxHeartbeats 4000000 in
set_option maxRecDepth 1000000 in
theorem ready_spec : ReadySpec := by
  intro A v y w r hRm hA hr
  have HD := Lib.hid (fun W (h : DK.RowC W v.ia v.ic A.dials) => ready_any A v y r hr W h)
  have HR := Lib.hid (hA.dials)
  clear hRm hA hr
  simp only [Wv.val, Wv.cells] at HD ⊢
  have hb := below1 w (.cells #[.slice v.p.za A.plan.zones.length v.p.zc, .slice v.p.fa A.plan.fates.length v.p.fc, .int .i64 A.plan.ticks, .slice v.p.da A.plan.drops.length v.p.dc, .int .i64 A.clock, .slice v.sa A.socks.length v.sc, .slice v.ia A.dials.length v.ic, .slice v.la A.looks.length v.lc, .int .i64 A.dropped, .slice v.ma A.marks.length v.mc] 33)
  have hL := laid1 w (.cells #[.slice v.p.za A.plan.zones.length v.p.zc, .slice v.p.fa A.plan.fates.length v.p.fc, .int .i64 A.plan.ticks, .slice v.p.da A.plan.drops.length v.p.dc, .int .i64 A.clock, .slice v.sa A.socks.length v.sc, .slice v.ia A.dials.length v.ic, .slice v.la A.looks.length v.lc, .int .i64 A.dropped, .slice v.ma A.marks.length v.mc] 33)
  go_enter Try.func13, Try.ntmps13
  go_upto_region 1 with fail
  obtain ⟨w1, hw1⟩ : ∃ X, X = w.alloc (.cells #[.slice v.p.za A.plan.zones.length v.p.zc, .slice v.p.fa A.plan.fates.length v.p.fc, .int .i64 A.plan.ticks, .slice v.p.da A.plan.drops.length v.p.dc, .int .i64 A.clock, .slice v.sa A.socks.length v.sc, .slice v.ia A.dials.length v.ic, .slice v.la A.looks.length v.lc, .int .i64 A.dropped, .slice v.ma A.marks.length v.mc] 33) := ⟨_, rfl⟩
  rw [← hw1] at hb hL ⊢
  clear hw1
  have HX := Lib.hid (HD.out w1 (HR.out.below hb))
  have HB := Lib.hid hb
  have hld := loadW (v := v) (A := A) hL
  obtain ⟨⟨x0, x1, x2, x3, x4, x5, x6, x7, x8, x9⟩, _⟩ := boxes10 hL
  clear hL hb HD
  go_wp2_with fail
  with_reducible refine HX.out.mono ?_
  rintro e w2 ⟨rfl, hb2⟩
  have HB2 := Lib.hid (HB.out.trans (hb2.mono HB.out.size))
  clear hb2 x0 x1 x2 x3 x4 x5 x6 x7 x8 x9 HX hld HB
  go_wp2_with fail
  go_ret
  exact ⟨rfl, HB2.out⟩

end Go.Proofs.Ytciohjgcndgiaaa
