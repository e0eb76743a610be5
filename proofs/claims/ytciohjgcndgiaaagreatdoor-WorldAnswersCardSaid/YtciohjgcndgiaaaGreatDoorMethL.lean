/- Methods of the landed world that look at lookups. -/
import Derived.Test.YtciohjgcndgiaaaGreatDoorSpecs
import Derived.Test.YtciohjgcndgiaaaGreatDoorThoseL
import Derived.Test.YtciohjgcndgiaaaGreatDoorMeth
import Derived.Test.YtciohjgcndgiaaaGreatDoorSpecsA
set_option linter.unusedSimpArgs false
set_option linter.unusedVariables false
namespace Go.Proofs.YtciohjgcndgiaaaGreatDoor
open Go.RowKit Go.Proofs.YtciohjgcndgiaaaGreatDoor.Kind

set_option maxHeartbeats 4000000 in
set_option maxRecDepth 1000000 in
theorem lookOf_any (A : Wo) (v : Wv) (y : Int) (w : World) (hR : LK.RowC w v.la v.lc A.looks) :
    Calls Tryz.prog 21 #[v.val A, .int .i64 y] w (RetI w (idxI (fun d : Lo => decide (d.by_ = y)) A.looks)) := by
  have HR := Lib.hid hR
  clear hR
  simp only [Wv.val, Wv.cells, Ad.v]
  have hb := below2 w (.cells #[.slice v.p.za A.plan.zones.length v.p.zc, .slice v.p.fa A.plan.fates.length v.p.fc, .int .i64 A.plan.ticks, .slice v.p.da A.plan.drops.length v.p.dc, .int .i64 A.clock, .slice v.sa A.socks.length v.sc, .slice v.ia A.dials.length v.ic, .slice v.la A.looks.length v.lc, .int .i64 A.dropped, .slice v.ma A.marks.length v.mc] 72) (.cells #[.int .i64 y] 3)
  have hL := laid2 w (.cells #[.slice v.p.za A.plan.zones.length v.p.zc, .slice v.p.fa A.plan.fates.length v.p.fc, .int .i64 A.plan.ticks, .slice v.p.da A.plan.drops.length v.p.dc, .int .i64 A.clock, .slice v.sa A.socks.length v.sc, .slice v.ia A.dials.length v.ic, .slice v.la A.looks.length v.lc, .int .i64 A.dropped, .slice v.ma A.marks.length v.mc] 72) (.cells #[.int .i64 y] 3)
  go_enter Tryz.func21, Tryz.ntmps21
  go_upto_region 1 with fail
  obtain ⟨w1, hw1⟩ : ∃ X, X = (w.alloc (.cells #[.slice v.p.za A.plan.zones.length v.p.zc, .slice v.p.fa A.plan.fates.length v.p.fc, .int .i64 A.plan.ticks, .slice v.p.da A.plan.drops.length v.p.dc, .int .i64 A.clock, .slice v.sa A.socks.length v.sc, .slice v.ia A.dials.length v.ic, .slice v.la A.looks.length v.lc, .int .i64 A.dropped, .slice v.ma A.marks.length v.mc] 72)).alloc (.cells #[.int .i64 y] 3) := ⟨_, rfl⟩
  rw [← hw1] at hb hL ⊢
  clear hw1
  generalize hG1 : w.heap.size + 1 = G1 at *
  have HX := Lib.hid (those_lby y G1 _ A.looks A.looks.length rfl v.la v.lc w1 hL.2 (HR.out.below hb))
  have HB := Lib.hid hb
  obtain ⟨⟨x0, x1, x2, x3, x4, x5, x6, x7, x8, x9⟩, _⟩ := boxes10 hL.1
  clear hL hb
  go_wp2_with fail
  with_reducible refine HX.out.mono ?_
  rintro e w2 ⟨rfl, hb2⟩
  have HB2 := Lib.hid (HB.out.trans (hb2.mono HB.out.size))
  clear hb2 x0 x1 x2 x3 x4 x5 x6 x7 x8 x9 HX
  go_wp2_with fail
  go_ret
  exact ⟨rfl, HB2.out⟩

set_option maxHeartbeats 4000000 in
set_option maxRecDepth 1000000 in
theorem looksOf_any (A : Wo) (v : Wv) (x : ByteArray) (w : World) (hR : LK.RowC w v.la v.lc A.looks) :
    Calls Tryz.prog 22 #[v.val A, .string x] w (RetI w ((A.looks.countP (fun d : Lo => decide (d.name = x)) : Nat) : Int)) := by
  have HR := Lib.hid hR
  clear hR
  simp only [Wv.val, Wv.cells, Ad.v]
  have hb := below2 w (.cells #[.slice v.p.za A.plan.zones.length v.p.zc, .slice v.p.fa A.plan.fates.length v.p.fc, .int .i64 A.plan.ticks, .slice v.p.da A.plan.drops.length v.p.dc, .int .i64 A.clock, .slice v.sa A.socks.length v.sc, .slice v.ia A.dials.length v.ic, .slice v.la A.looks.length v.lc, .int .i64 A.dropped, .slice v.ma A.marks.length v.mc] 72) (.cells #[.string x] 9)
  have hL := laid2 w (.cells #[.slice v.p.za A.plan.zones.length v.p.zc, .slice v.p.fa A.plan.fates.length v.p.fc, .int .i64 A.plan.ticks, .slice v.p.da A.plan.drops.length v.p.dc, .int .i64 A.clock, .slice v.sa A.socks.length v.sc, .slice v.ia A.dials.length v.ic, .slice v.la A.looks.length v.lc, .int .i64 A.dropped, .slice v.ma A.marks.length v.mc] 72) (.cells #[.string x] 9)
  go_enter Tryz.func22, Tryz.ntmps22
  go_upto_region 1 with fail
  obtain ⟨w1, hw1⟩ : ∃ X, X = (w.alloc (.cells #[.slice v.p.za A.plan.zones.length v.p.zc, .slice v.p.fa A.plan.fates.length v.p.fc, .int .i64 A.plan.ticks, .slice v.p.da A.plan.drops.length v.p.dc, .int .i64 A.clock, .slice v.sa A.socks.length v.sc, .slice v.ia A.dials.length v.ic, .slice v.la A.looks.length v.lc, .int .i64 A.dropped, .slice v.ma A.marks.length v.mc] 72)).alloc (.cells #[.string x] 9) := ⟨_, rfl⟩
  rw [← hw1] at hb hL ⊢
  clear hw1
  generalize hG1 : w.heap.size + 1 = G1 at *
  have HX := Lib.hid (those_lof x G1 _ A.looks A.looks.length rfl v.la v.lc w1 hL.2 (HR.out.below hb))
  have HB := Lib.hid hb
  obtain ⟨⟨x0, x1, x2, x3, x4, x5, x6, x7, x8, x9⟩, _⟩ := boxes10 hL.1
  clear hL hb
  go_wp2_with fail
  with_reducible refine HX.out.mono ?_
  rintro e w2 ⟨rfl, hb2⟩
  have HB2 := Lib.hid (HB.out.trans (hb2.mono HB.out.size))
  clear hb2 x0 x1 x2 x3 x4 x5 x6 x7 x8 x9 HX
  go_wp2_with fail
  go_ret
  exact ⟨rfl, HB2.out⟩

set_option maxHeartbeats 8000000 in
set_option maxRecDepth 1000000 in
theorem asked_any (A : Wo) (v : Wv) (y : Int) (r : Bool) (hr : r = askedP A y) (w : World) (hR : LK.RowC w v.la v.lc A.looks) :
    Calls Tryz.prog 23 #[v.val A, .int .i64 y] w (RetB w r) := by
  have HR := Lib.hid hR
  obtain ⟨ix, hix⟩ : ∃ X, X = idxI (fun d : Lo => decide (d.by_ = y)) A.looks := ⟨_, rfl⟩
  have HD := Lib.hid (fun W (h : LK.RowC W v.la v.lc A.looks) => hix ▸ lookOf_any A v y W h)
  have hlm : A.looks.length ≤ 9223372036854775807 := row_max hR
  clear hR
  simp only [Wv.val, Wv.cells] at HD ⊢
  have hb := below1 w (.cells #[.slice v.p.za A.plan.zones.length v.p.zc, .slice v.p.fa A.plan.fates.length v.p.fc, .int .i64 A.plan.ticks, .slice v.p.da A.plan.drops.length v.p.dc, .int .i64 A.clock, .slice v.sa A.socks.length v.sc, .slice v.ia A.dials.length v.ic, .slice v.la A.looks.length v.lc, .int .i64 A.dropped, .slice v.ma A.marks.length v.mc] 72)
  have hL := laid1 w (.cells #[.slice v.p.za A.plan.zones.length v.p.zc, .slice v.p.fa A.plan.fates.length v.p.fc, .int .i64 A.plan.ticks, .slice v.p.da A.plan.drops.length v.p.dc, .int .i64 A.clock, .slice v.sa A.socks.length v.sc, .slice v.ia A.dials.length v.ic, .slice v.la A.looks.length v.lc, .int .i64 A.dropped, .slice v.ma A.marks.length v.mc] 72)
  go_enter Tryz.func23, Tryz.ntmps23
  go_upto_region 1 with fail
  obtain ⟨w1, hw1⟩ : ∃ X, X = w.alloc (.cells #[.slice v.p.za A.plan.zones.length v.p.zc, .slice v.p.fa A.plan.fates.length v.p.fc, .int .i64 A.plan.ticks, .slice v.p.da A.plan.drops.length v.p.dc, .int .i64 A.clock, .slice v.sa A.socks.length v.sc, .slice v.ia A.dials.length v.ic, .slice v.la A.looks.length v.lc, .int .i64 A.dropped, .slice v.ma A.marks.length v.mc] 72) := ⟨_, rfl⟩
  rw [← hw1] at hb hL ⊢
  clear hw1
  have HX := Lib.hid (HD.out w1 (HR.out.below hb))
  have HB := Lib.hid hb
  have HL := Lib.hid hL
  have hld := loadS (v := v) (A := A) hL
  clear hL hb HD
  obtain ⟨⟨x0, x1, x2, x3, x4, x5, x6, x7, x8, x9⟩, _⟩ := boxes10 HL.out
  go_wp2_with fail
  with_reducible refine HX.out.mono ?_
  rintro e w2 ⟨rfl, hb2⟩
  have HB2 := Lib.hid (HB.out.trans (hb2.mono HB.out.size))
  have HL2 := Lib.hid ((hb2.block _ (lt_of_block HL.out)).trans HL.out)
  clear hb2 x0 x1 x2 x3 x4 x5 x6 x7 x8 x9 HX HL hld HB
  obtain ⟨⟨x0, x1, x2, x3, x4, x5, x6, x7, x8, x9⟩, _⟩ := boxes10 HL2.out
  cases hof : lookOf A y with
  | none =>
    obtain rfl : ix = -1 := by rw [hix]; exact look_none hof
    obtain rfl : r = false := by rw [hr]; unfold askedP; rw [hof]
    clear hix hr hof
    go_wp2_with fail
    go_ret
    exact ⟨rfl, HB2.out⟩
  | some x =>
    obtain ⟨hx, hby, hi, hlt⟩ := look_some hof
    obtain rfl : ix = (lookIx A y : Nat) := by rw [hix]; exact hi
    have hrr : r = !x.over := by rw [hr]; unfold askedP; rw [hof]
    clear hix hr hi hof
    generalize lookIx A y = k at *
    have hkI : (k : Int) < (A.looks.length : Int) := by omega
    have hk0 : (0 : Int) ≤ (k : Int) := by omega
    have hkd : decide ((0 : Int) ≤ (k : Int)) = true := by simp
    obtain ⟨b, o, hva, hbl, hat⟩ := (HR.out.below HB2.out).2.2.2 (by omega)
    obtain ⟨y0, y1, y2, y3⟩ := LK.cells hat hx
    rw [hva] at x7
    clear hat hva hbl hx hby
    subst hrr
    go_wp2_with fail
    go_ret
    exact ⟨by first | rfl | simp, HB2.out⟩

set_option maxHeartbeats 4000000 in
set_option maxRecDepth 1000000 in
theorem asked_spec : AskedSpec := by
  intro A v y w r hRm hA hr
  have HD := Lib.hid (fun W (h : LK.RowC W v.la v.lc A.looks) => asked_any A v y r hr W h)
  have HR := Lib.hid (hA.looks)
  clear hRm hA hr
  simp only [Wv.val, Wv.cells] at HD ⊢
  have hb := below1 w (.cells #[.slice v.p.za A.plan.zones.length v.p.zc, .slice v.p.fa A.plan.fates.length v.p.fc, .int .i64 A.plan.ticks, .slice v.p.da A.plan.drops.length v.p.dc, .int .i64 A.clock, .slice v.sa A.socks.length v.sc, .slice v.ia A.dials.length v.ic, .slice v.la A.looks.length v.lc, .int .i64 A.dropped, .slice v.ma A.marks.length v.mc] 32)
  have hL := laid1 w (.cells #[.slice v.p.za A.plan.zones.length v.p.zc, .slice v.p.fa A.plan.fates.length v.p.fc, .int .i64 A.plan.ticks, .slice v.p.da A.plan.drops.length v.p.dc, .int .i64 A.clock, .slice v.sa A.socks.length v.sc, .slice v.ia A.dials.length v.ic, .slice v.la A.looks.length v.lc, .int .i64 A.dropped, .slice v.ma A.marks.length v.mc] 32)
  go_enter Tryz.func8, Tryz.ntmps8
  go_upto_region 1 with fail
  obtain ⟨w1, hw1⟩ : ∃ X, X = w.alloc (.cells #[.slice v.p.za A.plan.zones.length v.p.zc, .slice v.p.fa A.plan.fates.length v.p.fc, .int .i64 A.plan.ticks, .slice v.p.da A.plan.drops.length v.p.dc, .int .i64 A.clock, .slice v.sa A.socks.length v.sc, .slice v.ia A.dials.length v.ic, .slice v.la A.looks.length v.lc, .int .i64 A.dropped, .slice v.ma A.marks.length v.mc] 32) := ⟨_, rfl⟩
  rw [← hw1] at hb hL ⊢
  clear hw1
  have HX := Lib.hid (HD.out w1 (HR.out.below hb))
  have HB := Lib.hid hb
  have hld := loadW (v := v) (A := A) hL
  obtain ⟨⟨x0, x1, x2, x3, x4, x5, x6, x7, x8, x9⟩, _⟩ := boxes10 hL
  clear hL hb HD
  go_wp2_with fail
  with_reducible refine HX.out.mono ?_
  rintro e w2 ⟨rfl, hb2⟩
  have HB2 := Lib.hid (HB.out.trans (hb2.mono HB.out.size))
  clear hb2 x0 x1 x2 x3 x4 x5 x6 x7 x8 x9 HX hld HB
  go_wp2_with fail
  go_ret
  exact ⟨rfl, HB2.out⟩

end Go.Proofs.YtciohjgcndgiaaaGreatDoor
