/- Fate. -/
import Derived.Test.YtciohjgcndgiaaaGreatDoorFind
set_option linter.unusedSimpArgs false
set_option linter.unusedVariables false
namespace Go.Proofs.YtciohjgcndgiaaaGreatDoor
open Go.RowKit Go.Proofs.YtciohjgcndgiaaaGreatDoor.Kind

set_option maxHeartbeats 2000000 in
set_option maxRecDepth 1000000 in
theorem nth_fate (n : Int) (l : List Int) (x : Int) (a : Option Addr) (c : Nat) (w : World) (hR : JK.RowC w a c l) (hx : l[nthI n l.length]? = some x) :
    Calls Tryz.prog 66 #[.slice a l.length c, .int .i64 n] w fun e w' => e = .returned (.tuple #[.int .i8 x, .bool true]) ∧ w = w' := by
  have hlen : (l.length : Int) ≤ 9223372036854775807 := len_intC _ (Nat.le_trans hR.1 hR.2.1)
  have hlt := (List.getElem?_eq_some_iff.1 hx).1
  obtain ⟨m, hm⟩ : ∃ m, m = nthI n l.length := ⟨_, rfl⟩
  rw [← hm] at hx hlt
  have hpos : 0 < l.length := by omega
  obtain ⟨b, o, rfl, hbl, hat⟩ := hR.2.2.2 hpos
  have y0 := JK.one hat hx
  clear hat hR hx
  have hne : ¬ l.length = 0 := by omega
  have hneI : ((l.length : Int) == 0) = false := by simp; exact List.ne_nil_of_length_pos hpos
  generalize l.length = L at *
  unfold nthI at hm
  by_cases h1 : n < 0
  · obtain rfl : m = 0 := by omega
    rw [Nat.add_zero] at y0
    clear hm
    go_enter Tryz.func66, Tryz.ntmps66
    go_wp2_with fail
    go_ret2
    exact ⟨by first | rfl | simp, rfl⟩
  · by_cases h2 : n ≤ (L : Int) - 1
    · obtain rfl : m = n.toNat := by omega
      clear hm
      go_enter Tryz.func66, Tryz.ntmps66
      go_wp2_with fail
      go_ret2
      exact ⟨by first | rfl | simp, rfl⟩
    · obtain rfl : m = L - 1 := by omega
      clear hm
      go_enter Tryz.func66, Tryz.ntmps66
      go_wp2_with fail
      go_ret2
      exact ⟨by first | rfl | simp, rfl⟩


set_option maxHeartbeats 2000000 in
set_option maxRecDepth 1000000 in
theorem nth_fate_none (n : Int) (a : Option Addr) (c : Nat) (w : World) :
    Calls Tryz.prog 66 #[.slice a 0 c, .int .i64 n] w fun e w' => e = .returned (.tuple #[.int .i8 0, .bool false]) ∧ w = w' := by
  go_enter Tryz.func66, Tryz.ntmps66
  go_wp2_with fail
  go_ret2
  exact ⟨by first | rfl | simp, rfl⟩


set_option maxHeartbeats 2000000 in
set_option maxRecDepth 1000000 in
/-- The closure in Fate: is it this address's row? -/
theorem row_is (x : Ad) (f : Fv) (g : Nat) (t : TypeId) (w : World) (hg : w.heap[g]? = some (.cells #[.int .i8 x.f, .int .u16 x.g0, .int .u16 x.g1, .int .u16 x.g2, .int .u16 x.g3, .int .u16 x.g4, .int .u16 x.g5, .int .u16 x.g6, .int .u16 x.g7, .int .i64 x.p] t (0, 0))) :
    Calls Tryz.prog 65 #[.agg #[.int .i8 f.ad.f, .int .u16 f.ad.g0, .int .u16 f.ad.g1, .int .u16 f.ad.g2, .int .u16 f.ad.g3, .int .u16 f.ad.g4, .int .u16 f.ad.g5, .int .u16 f.ad.g6, .int .u16 f.ad.g7, .int .i64 f.ad.p, .slice f.h.a f.h.n f.h.c], .pointer (some ⟨g, 0, none⟩)] w fun e w' => e = .returned (.bool (decide (f.ad = x))) ∧ Below w.heap.size w w' := by
  have hlt := lt_heap' hg
  obtain ⟨⟨c0, c1, c2, c3, c4⟩, c5, c6, c7, c8, c9⟩ := box10 (((below1 w (.cells #[.int .i8 f.ad.f, .int .u16 f.ad.g0, .int .u16 f.ad.g1, .int .u16 f.ad.g2, .int .u16 f.ad.g3, .int .u16 f.ad.g4, .int .u16 f.ad.g5, .int .u16 f.ad.g6, .int .u16 f.ad.g7, .int .i64 f.ad.p, .slice f.h.a f.h.n f.h.c] 62)).block g hlt).trans hg)
  have hE := eql_adC f.ad x
  have hG := guard_ad
  clear hg
  go_enter Tryz.func65, Tryz.ntmps65
  go_wp2_with fail
  go_ret
  exact ⟨rfl, below1 w _⟩


set_option maxHeartbeats 4000000 in
set_option maxRecDepth 1000000 in
theorem index_row (x : Ad) (g : Nat) (t : TypeId) (zs : List Fv) (m : Nat) (hm : m = zs.length) (a : Option Addr) (c : Nat) (w : World) (hg : w.heap[g]? = some (.cells #[.int .i8 x.f, .int .u16 x.g0, .int .u16 x.g1, .int .u16 x.g2, .int .u16 x.g3, .int .u16 x.g4, .int .u16 x.g5, .int .u16 x.g6, .int .u16 x.g7, .int .i64 x.p] t (0, 0))) (hR : FK.RowC w a c zs) :
    Calls Tryz.prog 64 #[.slice a m c, .func (.func 65) #[] #[.pointer (some ⟨g, 0, none⟩)]] w fun e w' => e = .returned (.int .i64 (idxI (fun z => decide (z.ad = x)) zs)) ∧ Below w.heap.size w w' := by
  subst hm
  have hlen : (zs.length : Int) ≤ 9223372036854775807 := len_intC _ (Nat.le_trans hR.1 hR.2.1)
  have HR := Lib.hid hR
  have HG := Lib.hid hg
  have hlt := lt_heap' hg
  clear hR hg
  go_enter Tryz.func64, Tryz.ntmps64
  go_wp2_with fail
  go_loopw [4, 8] (fun r i wr => ∃ k : Nat, r = .int .i64 0 ∧ i = .int .i64 k ∧ k ≤ zs.length ∧ Hid (NoneTo (fun z : Fv => decide (z.ad = x)) zs k) ∧ Below w.heap.size w wr) (fun _ i _ => zs.length - (intOf i).toNat)
  case atStart => exact ⟨0, rfl, rfl, by omega, Lib.hid (noneTo_zero _ _), Below.refl _ _⟩
  case round =>
    obtain ⟨k, rfl, rfl, hk, hn, hb⟩ := hrel
    have HN := Lib.hid hn.out
    have HB := Lib.hid hb
    have hbs := hb.size
    clear hn hb
    by_cases hki : k < zs.length
    · obtain ⟨y, hy⟩ : ∃ y, zs[k]? = some y := ⟨_, List.getElem?_eq_getElem hki⟩
      obtain ⟨b, o, rfl, hbl, hat⟩ := HR.out.2.2.2 (by omega)
      obtain ⟨⟨y0, y1, y2, y3, y4, y5⟩, y6, y7, y8, y9, y10⟩ := FK.row11C (hat.below HB.out hbl) hy
      have HC := Lib.hid (row_is x y g t wr ((HB.out.block g hlt).trans HG.out))
      have HX := Lib.hid hy
      clear hy hat
      go_wp2_with fail
      with_reducible refine HC.out.mono ?_
      rintro e w1 ⟨rfl, hb1⟩
      have HB1 := Lib.hid (HB.out.trans (hb1.mono hbs))
      clear hb1 HC y0 y1 y2 y3 y4 y5 y6 y7 y8 y9 y10
      by_cases hq : y.ad = x
      · have hd : decide (y.ad = x) = true := decide_eq_true hq
        rw [hd]
        have HD := Lib.hid hd
        clear hd hq
        go_wp2_with fail
        go_ret
        exact ⟨by rw [idxI_at HX.out HD.out HN.out]; rfl, HB1.out⟩
      · have hd : decide (y.ad = x) = false := decide_eq_false hq
        rw [hd]
        have HD := Lib.hid hd
        clear hd hq
        go_wp2_with fail
        go_roundw
        case rel => exact ⟨k + 1, rfl, by go_num, by omega, Lib.hid (noneTo_step HN.out HX.out HD.out), HB1.out⟩
        case measure => simp [intOf]; omega
    · obtain rfl : k = zs.length := by omega
      go_wp2_with fail
      go_ret
      exact ⟨by rw [idxI_none HN.out]; rfl, HB.out⟩

set_option maxHeartbeats 8000000 in
set_option maxRecDepth 1000000 in
theorem fate_real : PFateSpec := by
  intro P v s n w r hP hr
  obtain ⟨za, zc, fa, fc, da, dc⟩ := v
  obtain ⟨hzs, ⟨zs, hz⟩, hdr⟩ := hP
  simp only [Pv.val, Ad.v]
  dsimp only at hz
  have hzl := hz.1
  have HZ := Lib.hid hz
  clear hz hzs hdr
  obtain ⟨o1, ho1⟩ : ∃ o1 : Obj, o1 = .cells #[.slice za P.zones.length zc, .slice fa P.fates.length fc, .int .i64 P.ticks, .slice da P.drops.length dc] 26 := ⟨_, rfl⟩
  obtain ⟨o2, ho2⟩ : ∃ o2 : Obj, o2 = .cells #[.int .i8 s.f, .int .u16 s.g0, .int .u16 s.g1, .int .u16 s.g2, .int .u16 s.g3, .int .u16 s.g4, .int .u16 s.g5, .int .u16 s.g6, .int .u16 s.g7, .int .i64 s.p] 59 := ⟨_, rfl⟩
  have HB2 := Lib.hid (below2 w o1 o2)
  have HI := Lib.hid (index_row s (w.heap.size + 1) 59 zs P.fates.length hzl.symm fa fc ((w.alloc o1).alloc o2) (by rw [(laid2 w o1 o2).2, ho2]) (HZ.out.2.1.below (below2 w o1 o2)))
  have hsame : idxI (fun z : Fv => decide (z.ad = s)) zs = idxI (fun z : Fo => decide (z.ad = s)) P.fates := idxI_same hzl (fun j x y hx hy => by rw [(HZ.out.2.2 j x y hx hy).1])
  rw [hsame] at HI
  have HL1 := Lib.hid (laid2 w o1 o2).1
  rw [ho1, ho2] at HI HB2
  rw [ho1] at HL1
  rw [ho2] at HL1
  clear hsame
  obtain ⟨W2, hW2⟩ : ∃ W2, W2 = (w.alloc (.cells #[.slice za P.zones.length zc, .slice fa P.fates.length fc, .int .i64 P.ticks, .slice da P.drops.length dc] 26)).alloc (.cells #[.int .i8 s.f, .int .u16 s.g0, .int .u16 s.g1, .int .u16 s.g2, .int .u16 s.g3, .int .u16 s.g4, .int .u16 s.g5, .int .u16 s.g6, .int .u16 s.g7, .int .i64 s.p] 59) := ⟨_, rfl⟩
  rw [← hW2] at HI HB2 HL1
  have HN2 : W2.heap.size = w.heap.size + 2 := by rw [hW2]; simp
  clear ho1 ho2
  go_enter Tryz.func40, Tryz.ntmps40
  go_upto_region 1 with fail
  rw [← hW2]
  have HW2 := Lib.hid hW2
  clear hW2
  obtain ⟨⟨x0, x1, x2, x3⟩, _⟩ := box4 HL1.out
  go_wp2_with fail
  with_reducible refine HI.out.mono ?_
  rintro e w1 ⟨rfl, hb1⟩
  have HB1 := Lib.hid hb1
  have hb1s := hb1.size
  have HL := Lib.hid ((hb1.block w.heap.size (by omega)).trans HL1.out)
  clear hb1 HI x0 x1 x2 x3 HL1
  obtain ⟨⟨x0, x1, x2, x3⟩, _⟩ := box4 HL.out
  rcases idx_cases (fun z : Fo => decide (z.ad = s)) P.fates with ⟨h1, h2⟩ | ⟨k, z, h1, h2, h3⟩
  · rw [h1]
    obtain rfl : r = 1 := by rw [hr]; unfold fateP rowOf; rw [h2]
    clear h1 h2 hr
    go_wp2_with fail
    go_ret
    exact ⟨rfl, HB2.out.trans (HB1.out.mono (by omega))⟩
  · rw [h1]
    obtain ⟨x, g, o, hx, rfl, hg, hat, hPz⟩ := (HZ.out.below foP_steady (HB2.out.trans (HB1.out.mono (by omega)))).get h2
    have y10 := FK.last hat hx
    obtain ⟨hnm, hal, hrow⟩ := hPz
    have hkz : k < P.fates.length := (List.getElem?_eq_some_iff.1 h2).1
    have HA := Lib.hid hrow
    have hr' : r = (z.l[nthI n z.l.length]?).getD 1 := by rw [hr]; unfold fateP rowOf; rw [h3]
    clear hat hrow h1 h3 h2 hx hnm hr
    by_cases h0 : z.l.length = 0
    · obtain rfl : r = 1 := by
        have : z.l = [] := List.length_eq_zero_iff.1 h0
        rw [hr', this]; rfl
      rw [h0] at hal
      rw [hal] at y10
      clear hr'
      have HT := Lib.hid (nth_fate_none n x.h.a x.h.c w1)
      go_wp2_with fail
      with_reducible refine HT.out.mono ?_
      rintro e w2 ⟨rfl, rfl⟩
      go_wp2_with fail
      go_ret
      exact ⟨rfl, HB2.out.trans (HB1.out.mono (by omega))⟩
    · have hnth : nthI n z.l.length < z.l.length := by unfold nthI; omega
      obtain ⟨l, hl⟩ : ∃ l, z.l[nthI n z.l.length]? = some l := ⟨_, List.getElem?_eq_getElem hnth⟩
      have HT := Lib.hid (nth_fate n z.l l x.h.a x.h.c w1 HA.out hl)
      rw [hl] at hr'
      obtain rfl : r = l := hr'
      rw [hal] at y10
      clear hl hnth hal
      go_wp2_with fail
      with_reducible refine HT.out.mono ?_
      rintro e w2 ⟨rfl, rfl⟩
      go_wp2_with fail
      go_ret
      exact ⟨rfl, HB2.out.trans (HB1.out.mono (by omega))⟩
end Go.Proofs.YtciohjgcndgiaaaGreatDoor
