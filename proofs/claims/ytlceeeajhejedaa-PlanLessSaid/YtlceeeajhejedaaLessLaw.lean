/- A plan that may be may be without some of it; with a zone, a row of fates twice it may not. -/
import Derived.Test.YtlceeeajhejedaaLessP
import Derived.Test.YtlceeeajhejedaaGreat
set_option linter.unusedSimpArgs false
set_option linter.unusedVariables false
namespace Go.Proofs.Ytlceeeajhejedaa
open Go.RowKit Go.Proofs.Ytlceeeajhejedaa.Kind

section
variable {α : Type} {K : Kind Try.prog α}
/-- A row that is read, not in the block g. -/
def AwayC (K : Kind Try.prog α) (w : World) (g : Nat) (a : Option Addr) (c : Nat) (l : List α) : Prop := K.RowC w a c l ∧ (0 < l.length → ∀ ad, a = some ad → ad.block ≠ g)
theorem AwayC.set {w : World} {g : Nat} {a : Option Addr} {c : Nat} {l : List α} (h : AwayC K w g a c l) (i : Nat) (x : Value) : AwayC K (w.setCell ⟨g, i, none⟩ x) g a c l :=
  ⟨⟨h.1.1, h.1.2.1, h.1.2.2.1, h.1.2.2.2.set (fun hl ad e => (h.2 hl ad e).symm) x⟩, h.2⟩
theorem AwayC.below {w w' : World} {g : Nat} {a : Option Addr} {c : Nat} {l : List α} (h : AwayC K w g a c l) (hb : Below w.heap.size w w') : AwayC K w' g a c l := ⟨h.1.below hb, h.2⟩
theorem away_old {w w' : World} {g : Nat} {a : Option Addr} {c : Nat} {l : List α} (h : K.RowC w a c l) (hb : Below w.heap.size w w') (hg : w.heap.size ≤ g) : AwayC K w' g a c l := ⟨h.below hb, fun hl ad e => by
  obtain ⟨b, o, e2, hlt, _⟩ := h.2.2.2 hl
  rw [e] at e2
  injection e2 with e2
  subst e2
  dsimp only
  omega⟩
theorem own_away {w : World} {base g : Nat} {a : Option Addr} {n c : Nat} {l : List α} (h : K.Own w base (.slice a n c) l) (hg : g < base) : AwayC K w g a c l := ⟨h.row, fun hl ad e => by
  have := h.far.2 hl ad e
  omega⟩
theorem rowC_draw {w : World} {a : Option Addr} {c : Nat} {l : List α} (h : K.RowC w a c l) : K.RowC w.drew a c l := h
theorem own_empty (K : Kind Try.prog α) (w : World) : K.Own (w.alloc (.cells #[] K.T)) w.heap.size (.slice (some ⟨w.heap.size, 0, none⟩) 0 0) [] :=
  own_at (K := K) w [] #[] w.heap.size w.heap.size rfl (Nat.le_refl _) rfl (by simp)
theorem own_draw {w : World} {base : Nat} {v : Value} {l : List α} (h : K.Own w base v l) : K.Own w.drew base v l := h
theorem own_ge {w : World} {base : Nat} {v : Value} {l : List α} (h : K.Own w base v l) {g : Nat} (hg : v.ownBlock = some g) : base ≤ g ∧ g < w.heap.size := by
  rcases h.2 with ⟨rfl, _⟩ | ⟨g', cap, cur, rfl, h3, h4, h5⟩
  · cases hg
  · have : g' = g := by simpa [Value.ownBlock] using hg
    subst this
    exact ⟨h3, lt_of_block h4⟩
theorem own_next {W0 W w' : World} {n0 base : Nat} {v : Value} {l : List α} (hb : Below n0 W0 W) (ho : K.Own W base v l) (hg : W.grownBy w' v.ownBlock) (h0 : n0 ≤ base) (hn : n0 ≤ W0.heap.size) : Below n0 W0 w' :=
  hb.grown hg (Nat.le_trans hn hb.size) (fun k e => Nat.le_trans h0 (own_ge ho e).1)
theorem row_other {W w' : World} {base g : Nat} {v : Value} {l k : List α} (ho : K.Own W base v l) (hg : W.grownBy w' v.ownBlock) (hr : K.RowC W (some ⟨g, 0, none⟩) 1 k) (hne : v.ownBlock ≠ some g) : K.RowC w' (some ⟨g, 0, none⟩) 1 k := by
  refine ⟨hr.1, hr.2.1, hr.2.2.1, fun hk => ?_⟩
  obtain ⟨b, o, h1, h2, h3⟩ := hr.2.2.2 hk
  injection h1 with h1
  injection h1 with h4 h5
  subst h4 h5
  have hbk := hg.block g h2 (fun e => hne e.symm)
  have := hg.size
  refine ⟨g, 0, rfl, by omega, fun j x hx i u hu => ?_⟩
  rw [World.cell?_of_block (w := W) (w' := w') (a := ⟨g, 0 + j * K.k + i, none⟩) hbk]
  exact h3 j x hx i u hu
theorem chk_below {W Z w5 : World} {g n c : Nat} (h : Z.grownBy w5 (Value.slice (some ⟨g, 0, none⟩) n c).ownBlock) (hb : Below W.heap.size W Z) (hg : W.heap.size ≤ g) : Below W.heap.size W w5 :=
  hb.grown h hb.size (fun k e => by
    have e' : some g = some k := e
    injection e' with e'
    omega)
theorem row_next {W w' : World} {base g : Nat} {v : Value} {l k : List α} (hg : W.grownBy w' v.ownBlock) (ho : K.Own W base v l) (hr : K.RowC W (some ⟨g, 0, none⟩) 1 k) (hne : v.ownBlock ≠ some g) : K.RowC w' (some ⟨g, 0, none⟩) 1 k := row_other ho hg hr hne
end
theorem kept_set {A : Prop} {W0 W : World} (h : A ∧ Below W0.heap.size W0 W) {p : Addr} (hp : W0.heap.size ≤ p.block) (x : Value) : Below W0.heap.size W0 (W.setCell p x) := h.2.setCell hp x
/-- The plan that is made: its box, its zones, its fates. -/
structure QIn (w3 wx : World) (P : Pl) (da : Option Addr) (dc : Nat) (za : Option Addr) (zc : Nat) (zs : List Zv) (Zs : List Zo) (fa : Option Addr) (fc : Nat) (fs : List Fv) (Fs : List Fo) : Prop where
  below : Below w3.heap.size w3 wx
  box : wx.heap[w3.heap.size]? = some (.cells #[.slice za zs.length zc, .slice fa fs.length fc, .int .i64 P.ticks, .slice da P.drops.length dc] 26 (0, 0))
  zrow : AwayC ZK wx w3.heap.size za zc zs
  zall : Each ZoP w3 zs Zs
  zsub : Zs.Sublist P.zones
  frow : AwayC FK wx w3.heap.size fa fc fs
  fall : Each FoP w3 fs Fs
  fsub : Fs.Sublist P.fates

section
variable {w3 wx wq w6 : World} {P : Pl} {da : Option Addr} {dc : Nat} {za : Option Addr} {zc : Nat} {zs : List Zv} {Zs : List Zo} {fa : Option Addr} {fc : Nat} {fs : List Fv} {Fs : List Fo}
theorem QIn.on {w' : World} (h : QIn w3 wx P da dc za zc zs Zs fa fc fs Fs) (hb : Below wx.heap.size wx w') : QIn w3 w' P da dc za zc zs Zs fa fc fs Fs :=
  ⟨h.below.trans (hb.mono h.below.size), (hb.block _ (lt_of_block h.box)).trans h.box, h.zrow.below hb, h.zall, h.zsub, h.frow.below hb, h.fall, h.fsub⟩
theorem QIn.drew (h : QIn w3 wx P da dc za zc zs Zs fa fc fs Fs) : QIn w3 wx.drew P da dc za zc zs Zs fa fc fs Fs := ⟨h.below.drew, h.box, h.zrow, h.zall, h.zsub, h.frow, h.fall, h.fsub⟩
theorem QIn.plan {W : World} {d : Option Addr} {dc2 : Nat} {Ds : List Int} (h : QIn w3 wx P da dc za zc zs Zs fa fc fs Fs) (hb : Below w3.heap.size w3 W) (hz : ZK.RowC W za zc zs) (hf : FK.RowC W fa fc fs) (hd : IK.RowC w3 d dc2 Ds) (t : Int) : PlanC W ⟨za, zc, fa, fc, d, dc2⟩ ⟨Zs, Fs, t, Ds⟩ :=
  ⟨⟨zs, (h.zall.below zoP_steady hb).nest hz⟩, ⟨fs, (h.fall.below foP_steady hb).nest hf⟩, hd.below hb⟩
theorem small_sub {P : Pl} (h : Small P) {Z : List Zo} (hZ : Z.Sublist P.zones) (F : List Fo) (t : Int) (D : List Int) : Small ⟨Z, F, t, D⟩ := fun z hz => h z (hZ.subset hz)
theorem QIn.zones {a6 : Option Addr} {c6 : Nat} {L : List Zv} {LZ : List Zo} (h : QIn w3 wq P da dc za zc zs Zs fa fc fs Fs) (hb : Below wq.heap.size wq w6) (ho : ZK.Own w6 wq.heap.size (.slice a6 L.length c6) L) (he : Each ZoP w3 L LZ) (hs : LZ.Sublist P.zones) :
    QIn w3 (w6.setCell ⟨w3.heap.size, 0, none⟩ (.slice a6 L.length c6)) P da dc a6 c6 L LZ fa fc fs Fs :=
  have h6 := h.on hb
  ⟨h6.below.setCell (Nat.le_refl _) _, set_at h6.box 0 _, (own_away ho (lt_of_block h.box)).set 0 _, he, hs, h6.frow.set 0 _, h.fall, h.fsub⟩
theorem QIn.fates {a6 : Option Addr} {c6 : Nat} {L : List Fv} {LZ : List Fo} (h : QIn w3 wq P da dc za zc zs Zs fa fc fs Fs) (hb : Below wq.heap.size wq w6) (ho : FK.Own w6 wq.heap.size (.slice a6 L.length c6) L) (he : Each FoP w3 L LZ) (hs : LZ.Sublist P.fates) :
    QIn w3 (w6.setCell ⟨w3.heap.size, 1, none⟩ (.slice a6 L.length c6)) P da dc za zc zs Zs a6 c6 L LZ :=
  have h6 := h.on hb
  ⟨h6.below.setCell (Nat.le_refl _) _, set_at h6.box 1 _, h6.zrow.set 1 _, h.zall, h.zsub, (own_away ho (lt_of_block h.box)).set 1 _, he, hs⟩
end
theorem small_more {P : Pl} (h : Small P) {b : Zo} (hb : b ∈ P.zones) {Z : List Zo} (hZ : Z = P.zones ++ [b]) (F : List Fo) (t : Int) (D : List Int) : Small ⟨Z, F, t, D⟩ := fun z hz => by
  have hz' : z ∈ Z := hz
  rw [hZ, List.mem_append, List.mem_singleton] at hz'
  rcases hz' with h1 | rfl
  · exact h z h1
  · exact h z hb
theorem FK.eleven {w : World} {b o : Nat} {l : List Fv} (h : FK.At w b o l) {j : Nat} {x : Fv} (hx : l[j]? = some x) :
    (w.cell? ⟨b, o + j * 11, none⟩ = some (.int .i8 x.ad.f) ∧ w.cell? ⟨b, o + j * 11 + 1, none⟩ = some (.int .u16 x.ad.g0) ∧ w.cell? ⟨b, o + j * 11 + 2, none⟩ = some (.int .u16 x.ad.g1) ∧ w.cell? ⟨b, o + j * 11 + 3, none⟩ = some (.int .u16 x.ad.g2) ∧ w.cell? ⟨b, o + j * 11 + 4, none⟩ = some (.int .u16 x.ad.g3)) ∧
    w.cell? ⟨b, o + j * 11 + 5, none⟩ = some (.int .u16 x.ad.g4) ∧ w.cell? ⟨b, o + j * 11 + 6, none⟩ = some (.int .u16 x.ad.g5) ∧ w.cell? ⟨b, o + j * 11 + 7, none⟩ = some (.int .u16 x.ad.g6) ∧ w.cell? ⟨b, o + j * 11 + 8, none⟩ = some (.int .u16 x.ad.g7) ∧ w.cell? ⟨b, o + j * 11 + 9, none⟩ = some (.int .i64 x.ad.p) ∧ w.cell? ⟨b, o + j * 11 + 10, none⟩ = some (.slice x.h.a x.h.n x.h.c) :=
  ⟨⟨h j x hx 0 _ rfl, h j x hx 1 _ rfl, h j x hx 2 _ rfl, h j x hx 3 _ rfl, h j x hx 4 _ rfl⟩, h j x hx 5 _ rfl, h j x hx 6 _ rfl, h j x hx 7 _ rfl, h j x hx 8 _ rfl, h j x hx 9 _ rfl, h j x hx 10 _ rfl⟩
theorem nest_plan {w3 W : World} {P : Pl} {za : Option Addr} {zc : Nat} {fa : Option Addr} {fc : Nat} {da : Option Addr} {dc : Nat} (h : PlanC w3 ⟨za, zc, fa, fc, da, dc⟩ P) (hb : Below w3.heap.size w3 W) {a8 : Option Addr} {c8 : Nat} {K2 : List Zv} {Z : List Zo} (hr : ZK.RowC W a8 c8 K2) (he : Each ZoP w3 K2 Z) : PlanC W ⟨a8, c8, fa, fc, da, dc⟩ ⟨Z, P.fates, P.ticks, P.drops⟩ := by
  obtain ⟨_, h2, h3⟩ := h.below hb
  exact ⟨⟨K2, (he.below zoP_steady hb).nest hr⟩, h2, h3⟩
theorem nest_fate {w3 W : World} {P : Pl} {za : Option Addr} {zc : Nat} {fa : Option Addr} {fc : Nat} {da : Option Addr} {dc : Nat} (h : PlanC w3 ⟨za, zc, fa, fc, da, dc⟩ P) (hb : Below w3.heap.size w3 W) {a8 : Option Addr} {c8 : Nat} {K2 : List Fv} {F : List Fo} (hr : FK.RowC W a8 c8 K2) (he : Each FoP w3 K2 F) : PlanC W ⟨za, zc, a8, c8, da, dc⟩ ⟨P.zones, F, P.ticks, P.drops⟩ := by
  obtain ⟨h1, _, h3⟩ := h.below hb
  exact ⟨h1, ⟨K2, (he.below foP_steady hb).nest hr⟩, h3⟩

set_option maxHeartbeats 16000000 in
set_option maxRecDepth 1000000 in
theorem planless_walk (R : Rules) (HCk : CheckSpec R) (HWk : WakesSpec) (P : Pl) (v : Pv) (n : Int) (w : World) (hP : PlanC w v P) :
    Calls Try.prog 5 #[v.val P, .int .i64 n] w fun e w' => e = .returned (.bool true) ∧ Below w.heap.size w w' := by
  have HWk := Lib.hid (fun w => HWk w)
  have HGt := Lib.hid (fun w h => great_any v P w h)
  obtain ⟨rc, hrc⟩ : ∃ r : Int, r = (if checkB R P = true then 0 else 90) := ⟨_, rfl⟩
  have HC0 := Lib.hid (fun w hs h => HCk P v w rc hs h hrc)
  have HCk := Lib.hid (fun P v w r h1 h2 h3 => HCk P v w r h1 h2 h3)
  obtain ⟨za, zc, fa, fc, da, dc⟩ := v
  simp only [Pv.val] at HGt HC0 ⊢
  have HP := Lib.hid hP
  have HRC := Lib.hid hrc
  clear hP hrc
  go_enter Try.func5, Try.ntmps5
  go_upto_region 1 with fail
  have HX := Lib.hid (laid1 w (.cells #[.slice za P.zones.length zc, .slice fa P.fates.length fc, .int .i64 P.ticks, .slice da P.drops.length dc] 26))
  have hb1 := below1 w (.cells #[.slice za P.zones.length zc, .slice fa P.fates.length fc, .int .i64 P.ticks, .slice da P.drops.length dc] 26)
  have HB := Lib.hid hb1
  have HP1 := Lib.hid (HP.out.below hb1)
  obtain ⟨w1, hw1⟩ : ∃ w1, w1 = w.alloc (.cells #[.slice za P.zones.length zc, .slice fa P.fates.length fc, .int .i64 P.ticks, .slice da P.drops.length dc] 26) := ⟨_, rfl⟩
  rw [← hw1] at HX HB HP1 ⊢
  clear hb1 hw1 HP
  have hGA : w.heap.size < w1.heap.size := lt_of_block HX.out
  obtain ⟨⟨x0, x1, x2, x3⟩, _⟩ := box4 HX.out
  go_wp2_with fail
  with_reducible refine (HGt.out _ HP1.out).mono ?_
  rintro e w2 ⟨⟨r, rfl, hfew⟩, hb⟩
  have HFEW := Lib.hid hfew
  have HX2 := Lib.hid ((hb.block _ hGA).trans HX.out)
  have HP2 := Lib.hid (HP1.out.below hb)
  have HB2 := Lib.hid (HB.out.trans (hb.mono HB.out.size))
  clear hfew hb x0 x1 x2 x3 HX HP1 HB HGt
  obtain ⟨⟨x0, x1, x2, x3⟩, _⟩ := box4 HX2.out
  have hGA2 : w.heap.size < w2.heap.size := lt_of_block HX2.out
  cases r with
  | true =>
    go_wp2_with fail
    with_reducible refine (HWk.out _).mono ?_
    rintro e w3 ⟨rfl, hb⟩
    have HBf := Lib.hid (HB2.out.trans (hb.mono HB2.out.size))
    clear hb
    go_wp2_with fail
    go_ret
    exact ⟨rfl, HBf.out⟩
  | false =>
  have HSM := Lib.hid (HFEW.out rfl).1
  go_wp2_with fail
  with_reducible refine (HC0.out _ HSM.out HP2.out).mono ?_
  rintro e w3 ⟨rfl, hb⟩
  have HX3 := Lib.hid ((hb.block _ hGA2).trans HX2.out)
  have HP3 := Lib.hid (HP2.out.below hb)
  have HB3 := Lib.hid (HB2.out.trans (hb.mono HB2.out.size))
  clear hb x0 x1 x2 x3 HX2 HP2 HB2 HC0 HFEW
  obtain ⟨⟨x0, x1, x2, x3⟩, _⟩ := box4 HX3.out
  have hGA3 : w.heap.size < w3.heap.size := lt_of_block HX3.out
  by_cases hok : checkB R P = true
  case neg =>
    obtain rfl : rc = 90 := by rw [HRC.out, if_neg hok]
    go_wp2_with fail
    with_reducible refine (HWk.out _).mono ?_
    rintro e w4 ⟨rfl, hb⟩
    have HBf := Lib.hid (HB3.out.trans (hb.mono HB3.out.size))
    clear hb
    go_wp2_with fail
    go_ret
    exact ⟨rfl, HBf.out⟩
  obtain rfl : rc = 0 := by rw [HRC.out, if_pos hok]
  obtain ⟨hz8, hf32, htk, hd16⟩ := check_few hok
  have HOK := Lib.hid hok
  clear hok HRC
  obtain ⟨hs, hz⟩ := HP3.out.zones
  obtain ⟨fs, hf⟩ := HP3.out.fates
  dsimp only at hz hf
  have hb4 := below1 w3 (.cells #[.slice za P.zones.length zc, .slice fa P.fates.length fc, .int .i64 P.ticks, .slice da P.drops.length dc] 26)
  have HQ0 := Lib.hid (show QIn w3 (w3.alloc (.cells #[.slice za P.zones.length zc, .slice fa P.fates.length fc, .int .i64 P.ticks, .slice da P.drops.length dc] 26)) P da dc za zc hs P.zones fa fc fs P.fates from
    ⟨hb4, by rw [hz.len, hf.len]; exact laid1 w3 _, away_old hz.2.1 hb4 (Nat.le_refl _), hz.each, List.Sublist.refl _, away_old hf.2.1 hb4 (Nat.le_refl _), hf.each, List.Sublist.refl _⟩)
  have HZ := Lib.hid hz
  have HF := Lib.hid hf
  clear hb4 hz hf
  go_upto_if 22 with fail
  obtain ⟨wq, hwq⟩ : ∃ wq, wq = w3.alloc (.cells #[.slice za P.zones.length zc, .slice fa P.fates.length fc, .int .i64 P.ticks, .slice da P.drops.length dc] 26) := ⟨_, rfl⟩
  rw [← hwq] at HQ0 ⊢
  clear hwq x0 x1 x2 x3
  go_cut [5] (fun s5 wx => ∃ (zq : Option Addr) (zqc : Nat) (zs : List Zv) (Zs : List Zo), s5 = .pointer (some ⟨w3.heap.size, 0, none⟩) ∧ Hid (QIn w3 wx P da dc zq zqc zs Zs fa fc fs P.fates))
  case first =>
    have hX := (HQ0.out.below.block _ hGA3).trans HX3.out
    have hQ := HQ0.out.box
    have hXlt : w.heap.size < wq.heap.size := lt_of_block hX
    have hQlt : w3.heap.size < wq.heap.size := lt_of_block hQ
    obtain ⟨⟨x0, x1, x2, x3⟩, _⟩ := box4 hX
    by_cases h0 : P.zones.length = 0
    · have h0i : ¬ (0 : Int) < (P.zones.length : Int) := by omega
      have h0d : decide ((0 : Int) < (P.zones.length : Int)) = false := by simp [h0]
      clear hX hQ h0
      go_wp2_with fail
      go_meet
      exact ⟨za, zc, hs, P.zones, rfl, HQ0⟩
    · have h0i : (0 : Int) < (P.zones.length : Int) := by omega
      have h0d : decide ((0 : Int) < (P.zones.length : Int)) = true := decide_eq_true h0i
      go_upto_region 5 with fail
      obtain ⟨G, hG, hGe⟩ := place_at n P.zones.length h0 (by omega)
      obtain ⟨b, hbz⟩ : ∃ b, P.zones[G]? = some b := ⟨_, List.getElem?_eq_getElem hG⟩
      obtain ⟨x, gb, ob, hx, ea, hgb, hat, hPx⟩ := HZ.out.get hbz
      subst ea
      have hl := HZ.out.1
      have hR := HZ.out.2.1.below HQ0.out.below
      have hmd : P.zones.length ≤ zc := by have := hR.1; omega
      have hmi : ¬ (P.zones.length : Int) = 0 := by omega
      have hmi2 : ((P.zones.length : Int) == 0) = false := by rw [beq_eq_false_iff_ne]; omega
      have hmi3 : (P.zones.length == 0) = false := by rw [beq_eq_false_iff_ne]; exact h0
      have hGi : (G : Int) < (P.zones.length : Int) := by omega
      have hG0 : ¬ (G : Int) < 0 := by omega
      have hG0' : (0 : Int) ≤ (G : Int) := by omega
      have hGn : IntKind.i64.wrap ((G : Int) + 1) = (G : Int) + 1 := by rw [IntKind.wrap_i64]; omega
      have hmdi : (G : Int) + 1 ≤ (P.zones.length : Int) := by omega
      have hmd2 : (P.zones.length : Int) ≤ (zc : Int) := by omega
      have hmd3 : (G : Int) ≤ (zc : Int) := by omega
      have hmd4 : (0 : Int) ≤ (G : Int) + 1 := by omega
      have HTk := Lib.hid (hR.take (a' := some ⟨gb, ob, none⟩) G (by omega) rfl)
      obtain ⟨p1, hp1⟩ : ∃ p1, (if zc = G + 1 then some (⟨gb, ob, none⟩ : Addr) else some ⟨gb, ob + (G + 1) * 2, none⟩) = p1 := ⟨_, rfl⟩
      have HDr := Lib.hid (hR.drop (a' := p1) (G + 1) (by omega) (by rw [← hp1]; simp [add_at', ZK]))
      have HO0 := Lib.hid (own_draw (own_empty ZK wq))
      have HBZ := Lib.hid (below1 wq (.cells #[] 36)).drew
      obtain ⟨L1, hL1⟩ : ∃ L1, L1 = ([] : List Zv) ++ hs.take G := ⟨_, rfl⟩
      obtain ⟨L, hL⟩ : ∃ L, L = L1 ++ hs.drop (G + 1) := ⟨_, rfl⟩
      have hL1l : L1.length = G := by rw [hL1]; simp; omega
      have HL1 := Lib.hid hL1
      have HL2 := Lib.hid hL
      have HL1l := Lib.hid hL1l
      have HX := Lib.hid hX
      have HQB := Lib.hid hQ
      have HHX := Lib.hid hx
      have HBZn := Lib.hid hbz
      have HPX := Lib.hid hPx
      have HRW := Lib.hid hR
      have hl32 : hs.length ≤ 32 := by omega
      have HLEN := Lib.hid hl
      clear hL1 hL hL1l hX hQ hx hbz hPx hat hR hG
      obtain ⟨LZ, hLZ⟩ : ∃ LZ, LZ = P.zones.take G ++ P.zones.drop (G + 1) := ⟨_, rfl⟩
      have HEL := Lib.hid (show Each ZoP w3 L LZ by rw [HL2.out, HL1.out, hLZ, List.nil_append]; exact (HZ.out.each.take G).append (HZ.out.each.drop (G + 1)))
      have HSB := Lib.hid (show LZ.Sublist P.zones by rw [hLZ]; exact out_sub _ _)
      clear hLZ
      go_region
      go_upto_region 6 with fail
      go_cut [47] (fun _ wx => ∃ (a6 : Option Addr) (c6 : Nat), Hid (QIn w3 wx P da dc a6 c6 L LZ fa fc fs P.fates))
      case first =>
        have HS6 := Lib.hid (show ∀ W' : World, Below w3.heap.size w3 W' → ((W'.cell? ⟨w.heap.size, 0, none⟩ = some (.slice (some ⟨gb, ob, none⟩) P.zones.length zc) ∧ W'.cell? ⟨w.heap.size, 1, none⟩ = some (.slice fa P.fates.length fc) ∧ W'.cell? ⟨w.heap.size, 2, none⟩ = some (.int .i64 P.ticks) ∧ W'.cell? ⟨w.heap.size, 3, none⟩ = some (.slice da P.drops.length dc)) ∧ Below w3.heap.size w3 W') from fun W' h => ⟨(box4 ((h.block _ hGA3).trans HX3.out)).1, h⟩)
        have HB0 := Lib.hid HQ0.out.below
        clear x0 x1 x2 x3
        go_region_held3 (fun W' => (W'.cell? ⟨w.heap.size, 0, none⟩ = some (.slice (some ⟨gb, ob, none⟩) P.zones.length zc) ∧ W'.cell? ⟨w.heap.size, 1, none⟩ = some (.slice fa P.fates.length fc) ∧ W'.cell? ⟨w.heap.size, 2, none⟩ = some (.int .i64 P.ticks) ∧ W'.cell? ⟨w.heap.size, 3, none⟩ = some (.slice da P.drops.length dc)) ∧ Below w3.heap.size w3 W')
          (first | assumption | exact HS6.out _ HB0.out | exact HS6.out _ HB0.out.drew | exact HS6.out _ HB0.out.drew.drew | exact HS6.out _ (kept_alloc (by assumption) _) | exact HS6.out _ (kept_set (by assumption) (Nat.le_refl _) _) | exact HS6.out _ HB6w.out | exact HS6.out _ HB5w.out)
          (first
          | (refine ZK.step_append_owned rfl _ _ rfl wq.heap.size (.slice (some ⟨wq.heap.size, 0, none⟩) 0 0) rfl [] HO0.out (some ⟨gb, ob, none⟩) G zc rfl (hs.take G) (by simp; omega) (HTk.out.below (by first | exact (Below.refl _ wq).alloc (by simp) _ | exact (Below.refl _ wq).drew.alloc (by simp) _ | exact (Below.refl _ wq).drew.drew.alloc (by simp) _)) (by simp; omega) (by simp) L1 HL1.out ?_; intro a5 c5 w5 hO hG; have HO5 := Lib.hid hO; have HB5 := Lib.hid (chk_below (W := wq) hG (by first | exact (Below.refl _ wq).alloc (by simp) _ | exact (Below.refl _ wq).drew.alloc (by simp) _ | exact (Below.refl _ wq).drew.drew.alloc (by simp) _) (Nat.le_refl _)); have HB5w := Lib.hid (HB0.out.trans (HB5.out.mono HB0.out.size)); clear hO hG)
          | (refine ZK.step_append_owned rfl _ _ rfl wq.heap.size (.slice a5 L1.length c5) rfl L1 HO5.out p1 (P.zones.length - (G + 1)) (zc - (G + 1)) rfl (hs.drop (G + 1)) (by simp; omega) (HDr.out.below HB5.out) (by have := HL1l.out; simp; omega) HB5.out.size L HL2.out ?_; intro a6 c6 w6 hO hG; have HO6 := Lib.hid hO; have HB6 := Lib.hid (own_next HB5.out HO5.out hG (Nat.le_refl _) (Nat.le_refl _)); have HB6w := Lib.hid (HB0.out.trans (HB6.out.mono HB0.out.size)); obtain ⟨⟨q0, q1, q2, q3⟩, r0, r1, r2, r3⟩ := box4 ((HB6.out.block _ hQlt).trans HQB.out); clear hO hG))
        all_goals
          go_wp2_with fail
          go_meet
          have HQ6 := HQ0.out.zones HB6.out HO6.out HEL.out HSB.out
          first | exact ⟨a6, c6, HQ6⟩ | exact ⟨a6, c6, HQ6.drew⟩
      case rest =>
      clear HTk HDr HO0 HBZ HL1 HL2 HL1l HX HQB HRW HEL HSB x0 x1 x2 x3
      obtain ⟨a6, c6, hq6⟩ := hcut
      obtain ⟨wb, rfl⟩ : ∃ wb, wb = wc := ⟨_, rfl⟩
      have HQ6 := Lib.hid hq6.out
      clear hq6
      have hX7 := (HQ6.out.below.block _ hGA3).trans HX3.out
      have hX7lt : w.heap.size < wb.heap.size := lt_of_block hX7
      obtain ⟨⟨x0, x1, x2, x3⟩, _⟩ := box4 hX7
      have HX7 := Lib.hid hX7
      clear hX7
      go_upto_region 8 with fail
      have HBC := Lib.hid (below1 wb (.cells #[.slice (some ⟨gb, ob, none⟩) P.zones.length zc, .slice fa P.fates.length fc, .int .i64 P.ticks, .slice da P.drops.length dc] 26))
      obtain ⟨w8, hw8⟩ : ∃ w8, w8 = wb.alloc (.cells #[.slice (some ⟨gb, ob, none⟩) P.zones.length zc, .slice fa P.fates.length fc, .int .i64 P.ticks, .slice da P.drops.length dc] 26) := ⟨_, rfl⟩
      have HQX := Lib.hid (show w8.heap[wb.heap.size]? = some (.cells #[.slice (some ⟨gb, ob, none⟩) P.zones.length zc, .slice fa P.fates.length fc, .int .i64 P.ticks, .slice da P.drops.length dc] 26 (0, 0)) by rw [hw8]; exact laid1 wb _)
      rw [← hw8] at HBC ⊢
      clear hw8 x0 x1 x2 x3
      have HB8 := Lib.hid (HQ6.out.below.trans (HBC.out.mono HQ6.out.below.size))
      have HX8 := Lib.hid ((HBC.out.block _ hX7lt).trans HX7.out)
      obtain ⟨⟨x0, x1, x2, x3⟩, _⟩ := box4 HX8.out
      have hX8lt : w.heap.size < w8.heap.size := lt_of_block HX8.out
      have hQXlt : wb.heap.size < w8.heap.size := lt_of_block HQX.out
      have hwne : w.heap.size < wb.heap.size := hX7lt
      have HR8 := Lib.hid (HZ.out.2.1.below HB8.out)
      have hR7 := HZ.out.2.1.below HQ6.out.below
      obtain ⟨b7, o7, e7, hgb7, hat7⟩ := hR7.2.2.2 (by omega)
      obtain ⟨rfl, rfl⟩ : gb = b7 ∧ ob = o7 := by simpa using e7
      have HAT7 := Lib.hid hat7
      clear hat7 e7 hR7
      obtain ⟨KA, hKA⟩ : ∃ KA, KA = ([] : List Zv) ++ hs := ⟨_, rfl⟩
      obtain ⟨K2, hK2⟩ : ∃ K2, K2 = KA ++ [x] := ⟨_, rfl⟩
      obtain ⟨Z9, hZ9⟩ : ∃ Z, Z = P.zones ++ [b] := ⟨_, rfl⟩
      have HKA := Lib.hid hKA
      have HK2 := Lib.hid hK2
      have HKAl := Lib.hid (show KA.length ≤ 32 by rw [hKA]; simp; omega)
      have HKl := Lib.hid (show K2.length = Z9.length by rw [hK2, hKA, hZ9]; simp [HLEN.out])
      have HEK := Lib.hid (show Each ZoP w3 K2 Z9 by rw [hK2, hKA, hZ9, List.nil_append]; exact HZ.out.each.append (each_one HPX.out))
      have HZ9 := Lib.hid hZ9
      clear hKA hK2 hZ9
      have hoa := own_empty ZK (w8.alloc (.cells #[.string x.name, .slice x.h.a x.h.n x.h.c] 36))
      rw [World.size_alloc] at hoa
      have HOA := Lib.hid (own_draw (hoa.mono (b2 := w8.heap.size) (by omega)))
      clear hoa
      have HOB := Lib.hid (own_draw ((own_empty ZK w8).below (below1 (w8.alloc (.cells #[] 36)) (.cells #[.string x.name, .slice x.h.a x.h.n x.h.c] 36)) (Nat.le_refl _)))
      have HOC := Lib.hid (own_draw (own_empty ZK w8))
      have HBA := Lib.hid (below2 w8 (.cells #[.string x.name, .slice x.h.a x.h.n x.h.c] 36) (.cells #[] 36)).drew
      have HBB := Lib.hid (below2 w8 (.cells #[] 36) (.cells #[.string x.name, .slice x.h.a x.h.n x.h.c] 36)).drew
      have HBCc := Lib.hid (below1 w8 (.cells #[] 36)).drew
      have HRA := Lib.hid (rowC_draw ((rowC_at (K := ZK) w8 36 [x] #[.string x.name, .slice x.h.a x.h.n x.h.c] w8.heap.size 1 rfl rfl rfl (by simp)).below (below1 (w8.alloc (.cells #[.string x.name, .slice x.h.a x.h.n x.h.c] 36)) (.cells #[] 36))))
      have HRB := Lib.hid (rowC_draw (rowC_at (K := ZK) (w8.alloc (.cells #[] 36)) 36 [x] #[.string x.name, .slice x.h.a x.h.n x.h.c] (w8.heap.size + 1) 1 (by simp) rfl rfl (by simp)))
      go_cut [60] (fun _ wx => ∃ (a8 : Option Addr) (c8 : Nat), Hid (Below wb.heap.size wb wx) ∧ Hid (ZK.RowC wx a8 c8 K2) ∧ Hid (wx.heap[wb.heap.size]? = some (.cells #[.slice a8 K2.length c8, .slice fa P.fates.length fc, .int .i64 P.ticks, .slice da P.drops.length dc] 26 (0, 0))))
      case first =>
        have HS8 := Lib.hid (show ∀ W' : World, Below wb.heap.size wb W' → (((W'.cell? ⟨w.heap.size, 0, none⟩ = some (.slice (some ⟨gb, ob, none⟩) P.zones.length zc) ∧ W'.cell? ⟨w.heap.size, 1, none⟩ = some (.slice fa P.fates.length fc) ∧ W'.cell? ⟨w.heap.size, 2, none⟩ = some (.int .i64 P.ticks) ∧ W'.cell? ⟨w.heap.size, 3, none⟩ = some (.slice da P.drops.length dc)) ∧ (W'.cell? ⟨gb, ob + G * 2, none⟩ = some (.string x.name) ∧ W'.cell? ⟨gb, ob + G * 2 + 1, none⟩ = some (.slice x.h.a x.h.n x.h.c))) ∧ Below wb.heap.size wb W') from fun W' h => ⟨⟨(box4 ((h.block _ hX7lt).trans HX7.out)).1, ZK.two (HAT7.out.below h hgb7) HHX.out⟩, h⟩)
        clear x0 x1 x2 x3
        go_region_held3 (fun W' => ((W'.cell? ⟨w.heap.size, 0, none⟩ = some (.slice (some ⟨gb, ob, none⟩) P.zones.length zc) ∧ W'.cell? ⟨w.heap.size, 1, none⟩ = some (.slice fa P.fates.length fc) ∧ W'.cell? ⟨w.heap.size, 2, none⟩ = some (.int .i64 P.ticks) ∧ W'.cell? ⟨w.heap.size, 3, none⟩ = some (.slice da P.drops.length dc)) ∧ (W'.cell? ⟨gb, ob + G * 2, none⟩ = some (.string x.name) ∧ W'.cell? ⟨gb, ob + G * 2 + 1, none⟩ = some (.slice x.h.a x.h.n x.h.c))) ∧ Below wb.heap.size wb W')
          (first | assumption | exact HS8.out _ HBC.out | exact HS8.out _ HBC.out.drew | exact HS8.out _ HBC.out.drew.drew | exact HS8.out _ (kept_alloc (by assumption) _) | exact HS8.out _ (kept_set (by assumption) (Nat.le_refl _) _) | exact HS8.out _ HB9w.out | exact HS8.out _ HB7w.out)
          (first
          | (refine ZK.step_append_owned rfl _ _ rfl w8.heap.size (.slice (some ⟨w8.heap.size + 1, 0, none⟩) 0 0) rfl [] HOA.out (some ⟨gb, ob, none⟩) P.zones.length zc rfl hs HLEN.out.symm (HR8.out.below (by first | exact ((Below.refl _ w8).alloc (by simp) _).alloc (by simp <;> omega) _ | exact ((Below.refl _ w8).drew.alloc (by simp) _).alloc (by simp <;> omega) _ | exact ((Below.refl _ w8).drew.drew.alloc (by simp) _).alloc (by simp <;> omega) _)) (by simp; omega) (by simp <;> omega) KA HKA.out ?_; intro a7 c7 w7 hO hG; have HO7 := Lib.hid hO; have HB7 := Lib.hid (chk_below (W := w8) hG (by first | exact ((Below.refl _ w8).alloc (by simp) _).alloc (by simp <;> omega) _ | exact ((Below.refl _ w8).drew.alloc (by simp) _).alloc (by simp <;> omega) _ | exact ((Below.refl _ w8).drew.drew.alloc (by simp) _).alloc (by simp <;> omega) _) (by omega)); have HR7 := Lib.hid (row_next (K := ZK) hG (by exact HOA.out) (by exact HRA.out) (by simp [Value.ownBlock] <;> omega)); have HB7w := Lib.hid (HBC.out.trans (HB7.out.mono HBC.out.size)); clear hO hG)
          | (refine ZK.step_append_owned rfl _ _ rfl w8.heap.size (.slice (some ⟨w8.heap.size, 0, none⟩) 0 0) rfl [] HOB.out (some ⟨gb, ob, none⟩) P.zones.length zc rfl hs HLEN.out.symm (HR8.out.below (by first | exact ((Below.refl _ w8).alloc (by simp) _).alloc (by simp <;> omega) _ | exact ((Below.refl _ w8).drew.alloc (by simp) _).alloc (by simp <;> omega) _ | exact ((Below.refl _ w8).drew.drew.alloc (by simp) _).alloc (by simp <;> omega) _)) (by simp; omega) (by simp <;> omega) KA HKA.out ?_; intro a7 c7 w7 hO hG; have HO7 := Lib.hid hO; have HB7 := Lib.hid (chk_below (W := w8) hG (by first | exact ((Below.refl _ w8).alloc (by simp) _).alloc (by simp <;> omega) _ | exact ((Below.refl _ w8).drew.alloc (by simp) _).alloc (by simp <;> omega) _ | exact ((Below.refl _ w8).drew.drew.alloc (by simp) _).alloc (by simp <;> omega) _) (by omega)); have HR7 := Lib.hid (row_next (K := ZK) hG (by exact HOB.out) (by exact HRB.out) (by simp [Value.ownBlock] <;> omega)); have HB7w := Lib.hid (HBC.out.trans (HB7.out.mono HBC.out.size)); clear hO hG)
          | (refine ZK.step_append_owned rfl _ _ rfl w8.heap.size (.slice (some ⟨w8.heap.size, 0, none⟩) 0 0) rfl [] HOC.out (some ⟨gb, ob, none⟩) P.zones.length zc rfl hs HLEN.out.symm (HR8.out.below (by first | exact (Below.refl _ w8).alloc (by simp) _ | exact (Below.refl _ w8).drew.alloc (by simp) _ | exact (Below.refl _ w8).drew.drew.alloc (by simp) _)) (by simp; omega) (by simp <;> omega) KA HKA.out ?_; intro a7 c7 w7 hO hG; have HO7 := Lib.hid (Own.below hO (below1 w7 (.cells #[.string x.name, .slice x.h.a x.h.n x.h.c] 36)) (Nat.le_refl _)); have hB7 := chk_below (W := w8) hG (by first | exact (Below.refl _ w8).alloc (by simp) _ | exact (Below.refl _ w8).drew.alloc (by simp) _ | exact (Below.refl _ w8).drew.drew.alloc (by simp) _) (by omega); have HB7 := Lib.hid (hB7.trans ((below1 w7 (.cells #[.string x.name, .slice x.h.a x.h.n x.h.c] 36)).mono hB7.size)); have HR7 := Lib.hid (rowC_at (K := ZK) w7 36 [x] #[.string x.name, .slice x.h.a x.h.n x.h.c] w7.heap.size 1 rfl rfl rfl (by simp)); have HB7w := Lib.hid (HBC.out.trans (hB7.mono HBC.out.size)); clear hO hG hB7)
          | (refine ZK.step_append_owned rfl _ _ rfl w8.heap.size (.slice a7 KA.length c7) rfl KA HO7.out (some ⟨_, 0, none⟩) 1 1 rfl [x] rfl HR7.out (by have := HKAl.out; simp; omega) HB7.out.size K2 HK2.out ?_; intro a8 c8 w9 hO hG; have HO9 := Lib.hid hO; have HB9 := Lib.hid (own_next HB7.out HO7.out hG (Nat.le_refl _) (Nat.le_refl _)); have HB9w := Lib.hid (HBC.out.trans (HB9.out.mono HBC.out.size)); obtain ⟨⟨q0, q1, q2, q3⟩, r0, r1, r2, r3⟩ := box4 ((HB9.out.block _ hQXlt).trans HQX.out); clear hO hG))
        all_goals
          go_wp2_with fail
          go_meet
          have hBw := Lib.hid ((HBC.out.trans (HB9.out.mono HBC.out.size)).setCell (p := ⟨wb.heap.size, 0, none⟩) (Nat.le_refl _) (.slice a8 K2.length c8))
          have hRw := Lib.hid ((own_away HO9.out hQXlt).set 0 (.slice a8 K2.length c8)).1
          have hXw := Lib.hid (set_at ((HB9.out.block _ hQXlt).trans HQX.out) 0 (.slice a8 K2.length c8))
          exact ⟨a8, c8, hBw, hRw, hXw⟩
      case rest =>
      clear HOA HOB HOC HBA HBB HBCc HRA HRB HAT7 HX8 HQX HR8 x0 x1 x2 x3
      obtain ⟨a8, c8, hb9, hr9, hx9⟩ := hcut
      have HBx := Lib.hid hb9.out
      have HRx := Lib.hid hr9.out
      obtain ⟨⟨x0, x1, x2, x3⟩, _⟩ := box4 hx9.out
      have HBt := Lib.hid (HQ6.out.below.trans (HBx.out.mono HQ6.out.below.size))
      have HQ9 := Lib.hid (HQ6.out.on HBx.out)
      have hmem := List.mem_of_getElem? HBZn.out
      have hC := HCk.out ⟨Z9, P.fates, P.ticks, P.drops⟩ ⟨a8, c8, fa, fc, da, dc⟩ wc 90 (small_more HSM.out hmem HZ9.out _ _ _) (nest_plan HP3.out HBt.out HRx.out HEK.out) (by rw [HZ9.out, check_zone hmem]; rfl)
      simp only [Pv.val] at hC
      rw [← HKl.out] at hC
      have HC := Lib.hid hC
      clear hb9 hr9 hx9 hC hmem HQ6 HBx HRx HBt
      go_wp2_with fail
      with_reducible refine HC.out.mono ?_
      rintro e we ⟨rfl, hb⟩
      have HQe := Lib.hid (HQ9.out.on hb)
      clear hb HQ9 HC x0 x1 x2 x3
      go_wp2_with fail
      go_meet
      exact ⟨a6, c6, L, LZ, rfl, HQe⟩
  case rest =>
  obtain ⟨zq, zqc, zs, Zs, rfl, hq⟩ := hcut
  obtain ⟨wq, rfl⟩ : ∃ wq, wq = wc := ⟨_, rfl⟩
  have HQ0 := Lib.hid hq.out
  clear hq
  have hX := (HQ0.out.below.block _ hGA3).trans HX3.out
  obtain ⟨⟨x0, x1, x2, x3⟩, _⟩ := box4 hX
  clear hX
  go_upto_if 68 with fail
  clear x0 x1 x2 x3
  go_cut [5] (fun s5 wx => ∃ (fq : Option Addr) (fqc : Nat) (fz : List Fv) (Fs : List Fo), s5 = .pointer (some ⟨w3.heap.size, 0, none⟩) ∧ Hid (QIn w3 wx P da dc zq zqc zs Zs fq fqc fz Fs))
  case first =>
    have hX := (HQ0.out.below.block _ hGA3).trans HX3.out
    have hQ := HQ0.out.box
    have hXlt : w.heap.size < wq.heap.size := lt_of_block hX
    have hQlt : w3.heap.size < wq.heap.size := lt_of_block hQ
    obtain ⟨⟨x0, x1, x2, x3⟩, _⟩ := box4 hX
    by_cases h0 : P.fates.length = 0
    · have h0i : ¬ (0 : Int) < (P.fates.length : Int) := by omega
      have h0d : decide ((0 : Int) < (P.fates.length : Int)) = false := by simp [h0]
      clear hX hQ h0
      go_wp2_with fail
      go_meet
      exact ⟨fa, fc, fs, P.fates, rfl, HQ0⟩
    · have h0i : (0 : Int) < (P.fates.length : Int) := by omega
      have h0d : decide ((0 : Int) < (P.fates.length : Int)) = true := decide_eq_true h0i
      go_upto_region 12 with fail
      obtain ⟨G, hG, hGe⟩ := place_at n P.fates.length h0 (by omega)
      obtain ⟨b, hbz⟩ : ∃ b, P.fates[G]? = some b := ⟨_, List.getElem?_eq_getElem hG⟩
      obtain ⟨x, gb, ob, hx, ea, hgb, hat, hPx⟩ := HF.out.get hbz
      subst ea
      have hl := HF.out.1
      have hR := HF.out.2.1.below HQ0.out.below
      have hmd : P.fates.length ≤ fc := by have := hR.1; omega
      have hmi : ¬ (P.fates.length : Int) = 0 := by omega
      have hmi2 : ((P.fates.length : Int) == 0) = false := by rw [beq_eq_false_iff_ne]; omega
      have hmi3 : (P.fates.length == 0) = false := by rw [beq_eq_false_iff_ne]; exact h0
      have hGi : (G : Int) < (P.fates.length : Int) := by omega
      have hG0 : ¬ (G : Int) < 0 := by omega
      have hG0' : (0 : Int) ≤ (G : Int) := by omega
      have hGn : IntKind.i64.wrap ((G : Int) + 1) = (G : Int) + 1 := by rw [IntKind.wrap_i64]; omega
      have hmdi : (G : Int) + 1 ≤ (P.fates.length : Int) := by omega
      have hmd2 : (P.fates.length : Int) ≤ (fc : Int) := by omega
      have hmd3 : (G : Int) ≤ (fc : Int) := by omega
      have hmd4 : (0 : Int) ≤ (G : Int) + 1 := by omega
      have HTk := Lib.hid (hR.take (a' := some ⟨gb, ob, none⟩) G (by omega) rfl)
      obtain ⟨p1, hp1⟩ : ∃ p1, (if fc = G + 1 then some (⟨gb, ob, none⟩ : Addr) else some ⟨gb, ob + (G + 1) * 11, none⟩) = p1 := ⟨_, rfl⟩
      have HDr := Lib.hid (hR.drop (a' := p1) (G + 1) (by omega) (by rw [← hp1]; simp [add_at', FK]))
      have HO0 := Lib.hid (own_draw (own_empty FK wq))
      have HBZ := Lib.hid (below1 wq (.cells #[] 39)).drew
      obtain ⟨L1, hL1⟩ : ∃ L1, L1 = ([] : List Fv) ++ fs.take G := ⟨_, rfl⟩
      obtain ⟨L, hL⟩ : ∃ L, L = L1 ++ fs.drop (G + 1) := ⟨_, rfl⟩
      have hL1l : L1.length = G := by rw [hL1]; simp; omega
      have HL1 := Lib.hid hL1
      have HL2 := Lib.hid hL
      have HL1l := Lib.hid hL1l
      have HX := Lib.hid hX
      have HQB := Lib.hid hQ
      have HHX := Lib.hid hx
      have HBZn := Lib.hid hbz
      have HPX := Lib.hid hPx
      have HRW := Lib.hid hR
      have hl32 : fs.length ≤ 32 := by omega
      have HLEN := Lib.hid hl
      clear hL1 hL hL1l hX hQ hx hbz hPx hat hR hG
      obtain ⟨LZ, hLZ⟩ : ∃ LZ, LZ = P.fates.take G ++ P.fates.drop (G + 1) := ⟨_, rfl⟩
      have HEL := Lib.hid (show Each FoP w3 L LZ by rw [HL2.out, HL1.out, hLZ, List.nil_append]; exact (HF.out.each.take G).append (HF.out.each.drop (G + 1)))
      have HSB := Lib.hid (show LZ.Sublist P.fates by rw [hLZ]; exact out_sub _ _)
      clear hLZ
      go_region
      go_upto_region 13 with fail
      go_cut [93] (fun _ wx => ∃ (a6 : Option Addr) (c6 : Nat), Hid (QIn w3 wx P da dc zq zqc zs Zs a6 c6 L LZ))
      case first =>
        have HS6 := Lib.hid (show ∀ W' : World, Below w3.heap.size w3 W' → ((W'.cell? ⟨w.heap.size, 0, none⟩ = some (.slice za P.zones.length zc) ∧ W'.cell? ⟨w.heap.size, 1, none⟩ = some (.slice (some ⟨gb, ob, none⟩) P.fates.length fc) ∧ W'.cell? ⟨w.heap.size, 2, none⟩ = some (.int .i64 P.ticks) ∧ W'.cell? ⟨w.heap.size, 3, none⟩ = some (.slice da P.drops.length dc)) ∧ Below w3.heap.size w3 W') from fun W' h => ⟨(box4 ((h.block _ hGA3).trans HX3.out)).1, h⟩)
        have HB0 := Lib.hid HQ0.out.below
        clear x0 x1 x2 x3
        go_region_held3 (fun W' => (W'.cell? ⟨w.heap.size, 0, none⟩ = some (.slice za P.zones.length zc) ∧ W'.cell? ⟨w.heap.size, 1, none⟩ = some (.slice (some ⟨gb, ob, none⟩) P.fates.length fc) ∧ W'.cell? ⟨w.heap.size, 2, none⟩ = some (.int .i64 P.ticks) ∧ W'.cell? ⟨w.heap.size, 3, none⟩ = some (.slice da P.drops.length dc)) ∧ Below w3.heap.size w3 W')
          (first | assumption | exact HS6.out _ HB0.out | exact HS6.out _ HB0.out.drew | exact HS6.out _ HB0.out.drew.drew | exact HS6.out _ (kept_alloc (by assumption) _) | exact HS6.out _ (kept_set (by assumption) (Nat.le_refl _) _) | exact HS6.out _ HB6w.out | exact HS6.out _ HB5w.out)
          (first
          | (refine FK.step_append_owned rfl _ _ rfl wq.heap.size (.slice (some ⟨wq.heap.size, 0, none⟩) 0 0) rfl [] HO0.out (some ⟨gb, ob, none⟩) G fc rfl (fs.take G) (by simp; omega) (HTk.out.below (by first | exact (Below.refl _ wq).alloc (by simp) _ | exact (Below.refl _ wq).drew.alloc (by simp) _ | exact (Below.refl _ wq).drew.drew.alloc (by simp) _)) (by simp; omega) (by simp) L1 HL1.out ?_; intro a5 c5 w5 hO hG; have HO5 := Lib.hid hO; have HB5 := Lib.hid (chk_below (W := wq) hG (by first | exact (Below.refl _ wq).alloc (by simp) _ | exact (Below.refl _ wq).drew.alloc (by simp) _ | exact (Below.refl _ wq).drew.drew.alloc (by simp) _) (Nat.le_refl _)); have HB5w := Lib.hid (HB0.out.trans (HB5.out.mono HB0.out.size)); clear hO hG)
          | (refine FK.step_append_owned rfl _ _ rfl wq.heap.size (.slice a5 L1.length c5) rfl L1 HO5.out p1 (P.fates.length - (G + 1)) (fc - (G + 1)) rfl (fs.drop (G + 1)) (by simp; omega) (HDr.out.below HB5.out) (by have := HL1l.out; simp; omega) HB5.out.size L HL2.out ?_; intro a6 c6 w6 hO hG; have HO6 := Lib.hid hO; have HB6 := Lib.hid (own_next HB5.out HO5.out hG (Nat.le_refl _) (Nat.le_refl _)); have HB6w := Lib.hid (HB0.out.trans (HB6.out.mono HB0.out.size)); obtain ⟨⟨q0, q1, q2, q3⟩, r0, r1, r2, r3⟩ := box4 ((HB6.out.block _ hQlt).trans HQB.out); clear hO hG))
        all_goals
          go_wp2_with fail
          go_meet
          have HQ6 := HQ0.out.fates HB6.out HO6.out HEL.out HSB.out
          first | exact ⟨a6, c6, HQ6⟩ | exact ⟨a6, c6, HQ6.drew⟩
      case rest =>
      clear HTk HDr HO0 HBZ HL1 HL2 HL1l HX HQB HRW HEL HSB x0 x1 x2 x3
      obtain ⟨a6, c6, hq6⟩ := hcut
      obtain ⟨wb, rfl⟩ : ∃ wb, wb = wc := ⟨_, rfl⟩
      have HQ6 := Lib.hid hq6.out
      clear hq6
      have hX7 := (HQ6.out.below.block _ hGA3).trans HX3.out
      have hX7lt : w.heap.size < wb.heap.size := lt_of_block hX7
      obtain ⟨⟨x0, x1, x2, x3⟩, _⟩ := box4 hX7
      have HX7 := Lib.hid hX7
      clear hX7
      go_upto_region 15 with fail
      have HBC := Lib.hid (below1 wb (.cells #[.slice za P.zones.length zc, .slice (some ⟨gb, ob, none⟩) P.fates.length fc, .int .i64 P.ticks, .slice da P.drops.length dc] 26))
      obtain ⟨w8, hw8⟩ : ∃ w8, w8 = wb.alloc (.cells #[.slice za P.zones.length zc, .slice (some ⟨gb, ob, none⟩) P.fates.length fc, .int .i64 P.ticks, .slice da P.drops.length dc] 26) := ⟨_, rfl⟩
      have HQX := Lib.hid (show w8.heap[wb.heap.size]? = some (.cells #[.slice za P.zones.length zc, .slice (some ⟨gb, ob, none⟩) P.fates.length fc, .int .i64 P.ticks, .slice da P.drops.length dc] 26 (0, 0)) by rw [hw8]; exact laid1 wb _)
      rw [← hw8] at HBC ⊢
      clear hw8 x0 x1 x2 x3
      have HB8 := Lib.hid (HQ6.out.below.trans (HBC.out.mono HQ6.out.below.size))
      have HX8 := Lib.hid ((HBC.out.block _ hX7lt).trans HX7.out)
      obtain ⟨⟨x0, x1, x2, x3⟩, _⟩ := box4 HX8.out
      have hX8lt : w.heap.size < w8.heap.size := lt_of_block HX8.out
      have hQXlt : wb.heap.size < w8.heap.size := lt_of_block HQX.out
      have hwne : w.heap.size < wb.heap.size := hX7lt
      have HR8 := Lib.hid (HF.out.2.1.below HB8.out)
      have hR7 := HF.out.2.1.below HQ6.out.below
      obtain ⟨b7, o7, e7, hgb7, hat7⟩ := hR7.2.2.2 (by omega)
      obtain ⟨rfl, rfl⟩ : gb = b7 ∧ ob = o7 := by simpa using e7
      have HAT7 := Lib.hid hat7
      clear hat7 e7 hR7
      obtain ⟨KA, hKA⟩ : ∃ KA, KA = ([] : List Fv) ++ fs := ⟨_, rfl⟩
      obtain ⟨K2, hK2⟩ : ∃ K2, K2 = KA ++ [x] := ⟨_, rfl⟩
      obtain ⟨Z9, hZ9⟩ : ∃ Z, Z = P.fates ++ [b] := ⟨_, rfl⟩
      have HKA := Lib.hid hKA
      have HK2 := Lib.hid hK2
      have HKAl := Lib.hid (show KA.length ≤ 32 by rw [hKA]; simp; omega)
      have HKl := Lib.hid (show K2.length = Z9.length by rw [hK2, hKA, hZ9]; simp [HLEN.out])
      have HEK := Lib.hid (show Each FoP w3 K2 Z9 by rw [hK2, hKA, hZ9, List.nil_append]; exact HF.out.each.append (each_one HPX.out))
      have HZ9 := Lib.hid hZ9
      clear hKA hK2 hZ9
      have hoa := own_empty FK (w8.alloc (.cells #[.int .i8 x.ad.f, .int .u16 x.ad.g0, .int .u16 x.ad.g1, .int .u16 x.ad.g2, .int .u16 x.ad.g3, .int .u16 x.ad.g4, .int .u16 x.ad.g5, .int .u16 x.ad.g6, .int .u16 x.ad.g7, .int .i64 x.ad.p, .slice x.h.a x.h.n x.h.c] 39))
      rw [World.size_alloc] at hoa
      have HOA := Lib.hid (own_draw (hoa.mono (b2 := w8.heap.size) (by omega)))
      clear hoa
      have HOB := Lib.hid (own_draw ((own_empty FK w8).below (below1 (w8.alloc (.cells #[] 39)) (.cells #[.int .i8 x.ad.f, .int .u16 x.ad.g0, .int .u16 x.ad.g1, .int .u16 x.ad.g2, .int .u16 x.ad.g3, .int .u16 x.ad.g4, .int .u16 x.ad.g5, .int .u16 x.ad.g6, .int .u16 x.ad.g7, .int .i64 x.ad.p, .slice x.h.a x.h.n x.h.c] 39)) (Nat.le_refl _)))
      have HOC := Lib.hid (own_draw (own_empty FK w8))
      have HBA := Lib.hid (below2 w8 (.cells #[.int .i8 x.ad.f, .int .u16 x.ad.g0, .int .u16 x.ad.g1, .int .u16 x.ad.g2, .int .u16 x.ad.g3, .int .u16 x.ad.g4, .int .u16 x.ad.g5, .int .u16 x.ad.g6, .int .u16 x.ad.g7, .int .i64 x.ad.p, .slice x.h.a x.h.n x.h.c] 39) (.cells #[] 39)).drew
      have HBB := Lib.hid (below2 w8 (.cells #[] 39) (.cells #[.int .i8 x.ad.f, .int .u16 x.ad.g0, .int .u16 x.ad.g1, .int .u16 x.ad.g2, .int .u16 x.ad.g3, .int .u16 x.ad.g4, .int .u16 x.ad.g5, .int .u16 x.ad.g6, .int .u16 x.ad.g7, .int .i64 x.ad.p, .slice x.h.a x.h.n x.h.c] 39)).drew
      have HBCc := Lib.hid (below1 w8 (.cells #[] 39)).drew
      have HRA := Lib.hid (rowC_draw ((rowC_at (K := FK) w8 39 [x] #[.int .i8 x.ad.f, .int .u16 x.ad.g0, .int .u16 x.ad.g1, .int .u16 x.ad.g2, .int .u16 x.ad.g3, .int .u16 x.ad.g4, .int .u16 x.ad.g5, .int .u16 x.ad.g6, .int .u16 x.ad.g7, .int .i64 x.ad.p, .slice x.h.a x.h.n x.h.c] w8.heap.size 1 rfl rfl rfl (by simp)).below (below1 (w8.alloc (.cells #[.int .i8 x.ad.f, .int .u16 x.ad.g0, .int .u16 x.ad.g1, .int .u16 x.ad.g2, .int .u16 x.ad.g3, .int .u16 x.ad.g4, .int .u16 x.ad.g5, .int .u16 x.ad.g6, .int .u16 x.ad.g7, .int .i64 x.ad.p, .slice x.h.a x.h.n x.h.c] 39)) (.cells #[] 39))))
      have HRB := Lib.hid (rowC_draw (rowC_at (K := FK) (w8.alloc (.cells #[] 39)) 39 [x] #[.int .i8 x.ad.f, .int .u16 x.ad.g0, .int .u16 x.ad.g1, .int .u16 x.ad.g2, .int .u16 x.ad.g3, .int .u16 x.ad.g4, .int .u16 x.ad.g5, .int .u16 x.ad.g6, .int .u16 x.ad.g7, .int .i64 x.ad.p, .slice x.h.a x.h.n x.h.c] (w8.heap.size + 1) 1 (by simp) rfl rfl (by simp)))
      go_cut [106] (fun _ wx => ∃ (a8 : Option Addr) (c8 : Nat), Hid (Below wb.heap.size wb wx) ∧ Hid (FK.RowC wx a8 c8 K2) ∧ Hid (wx.heap[wb.heap.size]? = some (.cells #[.slice za P.zones.length zc, .slice a8 K2.length c8, .int .i64 P.ticks, .slice da P.drops.length dc] 26 (0, 0))))
      case first =>
        have HS8 := Lib.hid (show ∀ W' : World, Below wb.heap.size wb W' → (((W'.cell? ⟨w.heap.size, 0, none⟩ = some (.slice za P.zones.length zc) ∧ W'.cell? ⟨w.heap.size, 1, none⟩ = some (.slice (some ⟨gb, ob, none⟩) P.fates.length fc) ∧ W'.cell? ⟨w.heap.size, 2, none⟩ = some (.int .i64 P.ticks) ∧ W'.cell? ⟨w.heap.size, 3, none⟩ = some (.slice da P.drops.length dc)) ∧ ((W'.cell? ⟨gb, ob + G * 11, none⟩ = some (.int .i8 x.ad.f) ∧ W'.cell? ⟨gb, ob + G * 11 + 1, none⟩ = some (.int .u16 x.ad.g0) ∧ W'.cell? ⟨gb, ob + G * 11 + 2, none⟩ = some (.int .u16 x.ad.g1) ∧ W'.cell? ⟨gb, ob + G * 11 + 3, none⟩ = some (.int .u16 x.ad.g2) ∧ W'.cell? ⟨gb, ob + G * 11 + 4, none⟩ = some (.int .u16 x.ad.g3)) ∧ W'.cell? ⟨gb, ob + G * 11 + 5, none⟩ = some (.int .u16 x.ad.g4) ∧ W'.cell? ⟨gb, ob + G * 11 + 6, none⟩ = some (.int .u16 x.ad.g5) ∧ W'.cell? ⟨gb, ob + G * 11 + 7, none⟩ = some (.int .u16 x.ad.g6) ∧ W'.cell? ⟨gb, ob + G * 11 + 8, none⟩ = some (.int .u16 x.ad.g7) ∧ W'.cell? ⟨gb, ob + G * 11 + 9, none⟩ = some (.int .i64 x.ad.p) ∧ W'.cell? ⟨gb, ob + G * 11 + 10, none⟩ = some (.slice x.h.a x.h.n x.h.c))) ∧ Below wb.heap.size wb W') from fun W' h => ⟨⟨(box4 ((h.block _ hX7lt).trans HX7.out)).1, FK.eleven (HAT7.out.below h hgb7) HHX.out⟩, h⟩)
        clear x0 x1 x2 x3
        go_region_held3 (fun W' => ((W'.cell? ⟨w.heap.size, 0, none⟩ = some (.slice za P.zones.length zc) ∧ W'.cell? ⟨w.heap.size, 1, none⟩ = some (.slice (some ⟨gb, ob, none⟩) P.fates.length fc) ∧ W'.cell? ⟨w.heap.size, 2, none⟩ = some (.int .i64 P.ticks) ∧ W'.cell? ⟨w.heap.size, 3, none⟩ = some (.slice da P.drops.length dc)) ∧ ((W'.cell? ⟨gb, ob + G * 11, none⟩ = some (.int .i8 x.ad.f) ∧ W'.cell? ⟨gb, ob + G * 11 + 1, none⟩ = some (.int .u16 x.ad.g0) ∧ W'.cell? ⟨gb, ob + G * 11 + 2, none⟩ = some (.int .u16 x.ad.g1) ∧ W'.cell? ⟨gb, ob + G * 11 + 3, none⟩ = some (.int .u16 x.ad.g2) ∧ W'.cell? ⟨gb, ob + G * 11 + 4, none⟩ = some (.int .u16 x.ad.g3)) ∧ W'.cell? ⟨gb, ob + G * 11 + 5, none⟩ = some (.int .u16 x.ad.g4) ∧ W'.cell? ⟨gb, ob + G * 11 + 6, none⟩ = some (.int .u16 x.ad.g5) ∧ W'.cell? ⟨gb, ob + G * 11 + 7, none⟩ = some (.int .u16 x.ad.g6) ∧ W'.cell? ⟨gb, ob + G * 11 + 8, none⟩ = some (.int .u16 x.ad.g7) ∧ W'.cell? ⟨gb, ob + G * 11 + 9, none⟩ = some (.int .i64 x.ad.p) ∧ W'.cell? ⟨gb, ob + G * 11 + 10, none⟩ = some (.slice x.h.a x.h.n x.h.c))) ∧ Below wb.heap.size wb W')
          (first | assumption | exact HS8.out _ HBC.out | exact HS8.out _ HBC.out.drew | exact HS8.out _ HBC.out.drew.drew | exact HS8.out _ (kept_alloc (by assumption) _) | exact HS8.out _ (kept_set (by assumption) (Nat.le_refl _) _) | exact HS8.out _ HB9w.out | exact HS8.out _ HB7w.out)
          (first
          | (refine FK.step_append_owned rfl _ _ rfl w8.heap.size (.slice (some ⟨w8.heap.size + 1, 0, none⟩) 0 0) rfl [] HOA.out (some ⟨gb, ob, none⟩) P.fates.length fc rfl fs HLEN.out.symm (HR8.out.below (by first | exact ((Below.refl _ w8).alloc (by simp) _).alloc (by simp <;> omega) _ | exact ((Below.refl _ w8).drew.alloc (by simp) _).alloc (by simp <;> omega) _ | exact ((Below.refl _ w8).drew.drew.alloc (by simp) _).alloc (by simp <;> omega) _)) (by simp; omega) (by simp <;> omega) KA HKA.out ?_; intro a7 c7 w7 hO hG; have HO7 := Lib.hid hO; have HB7 := Lib.hid (chk_below (W := w8) hG (by first | exact ((Below.refl _ w8).alloc (by simp) _).alloc (by simp <;> omega) _ | exact ((Below.refl _ w8).drew.alloc (by simp) _).alloc (by simp <;> omega) _ | exact ((Below.refl _ w8).drew.drew.alloc (by simp) _).alloc (by simp <;> omega) _) (by omega)); have HR7 := Lib.hid (row_next (K := FK) hG (by exact HOA.out) (by exact HRA.out) (by simp [Value.ownBlock] <;> omega)); have HB7w := Lib.hid (HBC.out.trans (HB7.out.mono HBC.out.size)); clear hO hG)
          | (refine FK.step_append_owned rfl _ _ rfl w8.heap.size (.slice (some ⟨w8.heap.size, 0, none⟩) 0 0) rfl [] HOB.out (some ⟨gb, ob, none⟩) P.fates.length fc rfl fs HLEN.out.symm (HR8.out.below (by first | exact ((Below.refl _ w8).alloc (by simp) _).alloc (by simp <;> omega) _ | exact ((Below.refl _ w8).drew.alloc (by simp) _).alloc (by simp <;> omega) _ | exact ((Below.refl _ w8).drew.drew.alloc (by simp) _).alloc (by simp <;> omega) _)) (by simp; omega) (by simp <;> omega) KA HKA.out ?_; intro a7 c7 w7 hO hG; have HO7 := Lib.hid hO; have HB7 := Lib.hid (chk_below (W := w8) hG (by first | exact ((Below.refl _ w8).alloc (by simp) _).alloc (by simp <;> omega) _ | exact ((Below.refl _ w8).drew.alloc (by simp) _).alloc (by simp <;> omega) _ | exact ((Below.refl _ w8).drew.drew.alloc (by simp) _).alloc (by simp <;> omega) _) (by omega)); have HR7 := Lib.hid (row_next (K := FK) hG (by exact HOB.out) (by exact HRB.out) (by simp [Value.ownBlock] <;> omega)); have HB7w := Lib.hid (HBC.out.trans (HB7.out.mono HBC.out.size)); clear hO hG)
          | (refine FK.step_append_owned rfl _ _ rfl w8.heap.size (.slice (some ⟨w8.heap.size, 0, none⟩) 0 0) rfl [] HOC.out (some ⟨gb, ob, none⟩) P.fates.length fc rfl fs HLEN.out.symm (HR8.out.below (by first | exact (Below.refl _ w8).alloc (by simp) _ | exact (Below.refl _ w8).drew.alloc (by simp) _ | exact (Below.refl _ w8).drew.drew.alloc (by simp) _)) (by simp; omega) (by simp <;> omega) KA HKA.out ?_; intro a7 c7 w7 hO hG; have HO7 := Lib.hid (Own.below hO (below1 w7 (.cells #[.int .i8 x.ad.f, .int .u16 x.ad.g0, .int .u16 x.ad.g1, .int .u16 x.ad.g2, .int .u16 x.ad.g3, .int .u16 x.ad.g4, .int .u16 x.ad.g5, .int .u16 x.ad.g6, .int .u16 x.ad.g7, .int .i64 x.ad.p, .slice x.h.a x.h.n x.h.c] 39)) (Nat.le_refl _)); have hB7 := chk_below (W := w8) hG (by first | exact (Below.refl _ w8).alloc (by simp) _ | exact (Below.refl _ w8).drew.alloc (by simp) _ | exact (Below.refl _ w8).drew.drew.alloc (by simp) _) (by omega); have HB7 := Lib.hid (hB7.trans ((below1 w7 (.cells #[.int .i8 x.ad.f, .int .u16 x.ad.g0, .int .u16 x.ad.g1, .int .u16 x.ad.g2, .int .u16 x.ad.g3, .int .u16 x.ad.g4, .int .u16 x.ad.g5, .int .u16 x.ad.g6, .int .u16 x.ad.g7, .int .i64 x.ad.p, .slice x.h.a x.h.n x.h.c] 39)).mono hB7.size)); have HR7 := Lib.hid (rowC_at (K := FK) w7 39 [x] #[.int .i8 x.ad.f, .int .u16 x.ad.g0, .int .u16 x.ad.g1, .int .u16 x.ad.g2, .int .u16 x.ad.g3, .int .u16 x.ad.g4, .int .u16 x.ad.g5, .int .u16 x.ad.g6, .int .u16 x.ad.g7, .int .i64 x.ad.p, .slice x.h.a x.h.n x.h.c] w7.heap.size 1 rfl rfl rfl (by simp)); have HB7w := Lib.hid (HBC.out.trans (hB7.mono HBC.out.size)); clear hO hG hB7)
          | (refine FK.step_append_owned rfl _ _ rfl w8.heap.size (.slice a7 KA.length c7) rfl KA HO7.out (some ⟨_, 0, none⟩) 1 1 rfl [x] rfl HR7.out (by have := HKAl.out; simp; omega) HB7.out.size K2 HK2.out ?_; intro a8 c8 w9 hO hG; have HO9 := Lib.hid hO; have HB9 := Lib.hid (own_next HB7.out HO7.out hG (Nat.le_refl _) (Nat.le_refl _)); have HB9w := Lib.hid (HBC.out.trans (HB9.out.mono HBC.out.size)); obtain ⟨⟨q0, q1, q2, q3⟩, r0, r1, r2, r3⟩ := box4 ((HB9.out.block _ hQXlt).trans HQX.out); clear hO hG))
        all_goals
          go_wp2_with fail
          go_meet
          have hBw := Lib.hid ((HBC.out.trans (HB9.out.mono HBC.out.size)).setCell (p := ⟨wb.heap.size, 1, none⟩) (Nat.le_refl _) (.slice a8 K2.length c8))
          have hRw := Lib.hid ((own_away HO9.out hQXlt).set 1 (.slice a8 K2.length c8)).1
          have hXw := Lib.hid (set_at ((HB9.out.block _ hQXlt).trans HQX.out) 1 (.slice a8 K2.length c8))
          exact ⟨a8, c8, hBw, hRw, hXw⟩
      case rest =>
      clear HOA HOB HOC HBA HBB HBCc HRA HRB HAT7 HX8 HQX HR8 x0 x1 x2 x3
      obtain ⟨a8, c8, hb9, hr9, hx9⟩ := hcut
      have HBx := Lib.hid hb9.out
      have HRx := Lib.hid hr9.out
      obtain ⟨⟨x0, x1, x2, x3⟩, _⟩ := box4 hx9.out
      have HBt := Lib.hid (HQ6.out.below.trans (HBx.out.mono HQ6.out.below.size))
      have HQ9 := Lib.hid (HQ6.out.on HBx.out)
      have hmem := List.mem_of_getElem? HBZn.out
      have hC := HCk.out ⟨P.zones, Z9, P.ticks, P.drops⟩ ⟨za, zc, a8, c8, da, dc⟩ wc 90 HSM.out (nest_fate HP3.out HBt.out HRx.out HEK.out) (by rw [HZ9.out, check_fate hmem]; rfl)
      simp only [Pv.val] at hC
      rw [← HKl.out] at hC
      have HC := Lib.hid hC
      clear hb9 hr9 hx9 hC hmem HQ6 HBx HRx HBt
      go_wp2_with fail
      with_reducible refine HC.out.mono ?_
      rintro e we ⟨rfl, hb⟩
      have HQe := Lib.hid (HQ9.out.on hb)
      clear hb HQ9 HC x0 x1 x2 x3
      go_wp2_with fail
      go_meet
      exact ⟨a6, c6, L, LZ, rfl, HQe⟩
  case rest =>
  obtain ⟨fq, fqc, fz, Fs, rfl, hq⟩ := hcut
  have HQ1 := Lib.hid hq.out
  obtain ⟨wq2, rfl⟩ : ∃ wq2, wq2 = wc := ⟨_, rfl⟩
  clear hq HQ0
  have hX := (HQ1.out.below.block _ hGA3).trans HX3.out
  have hXlt : w.heap.size < wq2.heap.size := lt_of_block hX
  have hQlt : w3.heap.size < wq2.heap.size := lt_of_block HQ1.out.box
  obtain ⟨⟨x0, x1, x2, x3⟩, _⟩ := box4 hX
  obtain ⟨⟨y0, y1, y2, y3⟩, z0, z1, z2, z3⟩ := box4 HQ1.out.box
  have hne : w3.heap.size ≠ w.heap.size := by omega
  have hne2 : w.heap.size ≠ w3.heap.size := by omega
  have hdl : P.drops.length ≤ dc := HP3.out.drops.1
  clear hX
  obtain ⟨t, ht⟩ : ∃ t, (if 1 < P.ticks then P.ticks - 1 else 0) = t := ⟨_, rfl⟩
  have hw1 : IntKind.i64.wrap (P.ticks - 1) = P.ticks - 1 := by rw [IntKind.wrap_i64]; omega
  have HT := Lib.hid (show t = max 0 (P.ticks - 1) by rw [← ht]; split <;> omega)
  by_cases h0 : P.drops.length = 0
  · have h0i : ¬ (0 : Int) < (P.drops.length : Int) := by omega
    have h0d : decide ((0 : Int) < (P.drops.length : Int)) = false := by simp [h0]
    clear h0
    go_upto_region 21 with fail
    obtain ⟨W, hW⟩ : ∃ W, W = wq2.setCell ⟨w3.heap.size, 2, none⟩ (.int .i64 t) := ⟨_, rfl⟩
    have hBW : Below w3.heap.size w3 W := by rw [hW]; exact (HQ1.out.below).setCell (Nat.le_refl _) _
    have hq3 : W.heap[w3.heap.size]? = some (.cells #[.slice zq zs.length zqc, .slice fq fz.length fqc, .int .i64 t, .slice da (P.drops.length) (dc)] 26 (0, 0)) := by rw [hW]; exact set_at (HQ1.out.box) 2 _
    have hzr : ZK.RowC W zq zqc zs := by rw [hW]; exact ((HQ1.out.zrow).set 2 _).1
    have hfr : FK.RowC W fq fqc fz := by rw [hW]; exact ((HQ1.out.frow).set 2 _).1
    rw [← hW]
    have hC := HCk.out ⟨Zs, Fs, t, P.drops⟩ ⟨zq, zqc, fq, fqc, da, dc⟩ W 0 (small_sub HSM.out HQ1.out.zsub _ _ _) (HQ1.out.plan hBW hzr hfr HP3.out.drops t) (by rw [if_pos (check_less HOK.out HQ1.out.zsub HQ1.out.fsub (List.Sublist.refl _) HT.out)])
    simp only [Pv.val] at hC
    rw [← HQ1.out.zall.1, ← HQ1.out.fall.1] at hC
    have HC := Lib.hid hC
    have HBW := Lib.hid (HB3.out.trans (hBW.mono HB3.out.size))
    clear x0 x1 x2 x3 y0 y1 y2 y3 z0 z1 z2 z3
    obtain ⟨⟨x0, x1, x2, x3⟩, _⟩ := box4 hq3
    clear hBW hq3 hzr hfr hC hW
    go_wp2_with fail
    with_reducible refine HC.out.mono ?_
    rintro e we ⟨rfl, hb⟩
    have HBe := Lib.hid (HBW.out.trans (hb.mono HBW.out.size))
    clear hb
    go_wp2_with fail
    with_reducible refine (HWk.out _).mono ?_
    rintro e wf ⟨rfl, hb⟩
    have HBf := Lib.hid (HBe.out.trans (hb.mono HBe.out.size))
    clear hb
    go_wp2_with fail
    go_ret
    exact ⟨rfl, HBf.out⟩
  · have h0i : (0 : Int) < (P.drops.length : Int) := by omega
    have h0d : decide ((0 : Int) < (P.drops.length : Int)) = true := decide_eq_true h0i
    have h1i : (1 : Int) ≤ (P.drops.length : Int) := by omega
    obtain ⟨bd, od, hda, hbd, _⟩ := HP3.out.drops.2.2.2 (by show 0 < P.drops.length; omega)
    dsimp only at hda
    subst hda
    obtain ⟨p1, hp1⟩ : ∃ p1, (if dc = 1 then some (⟨bd, od, none⟩ : Addr) else some ⟨bd, od + 1, none⟩) = p1 := ⟨_, rfl⟩
    have HDR := Lib.hid (HP3.out.drops.drop (a' := p1) 1 (by show 1 ≤ P.drops.length; omega) (by rw [← hp1]; simp [add_at', IK]))
    go_upto_region 21 with fail
    obtain ⟨W, hW⟩ : ∃ W, W = (wq2.setCell ⟨w3.heap.size, 3, none⟩ (.slice p1 (P.drops.length - 1) (dc - 1))).setCell ⟨w3.heap.size, 2, none⟩ (.int .i64 t) := ⟨_, rfl⟩
    have hBW : Below w3.heap.size w3 W := by rw [hW]; exact ((HQ1.out.below).setCell (Nat.le_refl _) _).setCell (Nat.le_refl _) _
    have hq3 : W.heap[w3.heap.size]? = some (.cells #[.slice zq zs.length zqc, .slice fq fz.length fqc, .int .i64 t, .slice p1 (P.drops.length - 1) (dc - 1)] 26 (0, 0)) := by rw [hW]; exact set_at (set_at (HQ1.out.box) 3 _) 2 _
    have hzr : ZK.RowC W zq zqc zs := by rw [hW]; exact (((HQ1.out.zrow).set 3 _).set 2 _).1
    have hfr : FK.RowC W fq fqc fz := by rw [hW]; exact (((HQ1.out.frow).set 3 _).set 2 _).1
    rw [← hW]
    have hC := HCk.out ⟨Zs, Fs, t, P.drops.drop 1⟩ ⟨zq, zqc, fq, fqc, p1, dc - 1⟩ W 0 (small_sub HSM.out HQ1.out.zsub _ _ _) (HQ1.out.plan hBW hzr hfr HDR.out t) (by rw [if_pos (check_less HOK.out HQ1.out.zsub HQ1.out.fsub (List.drop_sublist 1 _) HT.out)])
    simp only [Pv.val, List.length_drop] at hC
    rw [← HQ1.out.zall.1, ← HQ1.out.fall.1] at hC
    have HC := Lib.hid hC
    have HBW := Lib.hid (HB3.out.trans (hBW.mono HB3.out.size))
    clear x0 x1 x2 x3 y0 y1 y2 y3 z0 z1 z2 z3
    obtain ⟨⟨x0, x1, x2, x3⟩, _⟩ := box4 hq3
    clear hBW hq3 hzr hfr hC hW
    go_wp2_with fail
    with_reducible refine HC.out.mono ?_
    rintro e we ⟨rfl, hb⟩
    have HBe := Lib.hid (HBW.out.trans (hb.mono HBW.out.size))
    clear hb
    go_wp2_with fail
    with_reducible refine (HWk.out _).mono ?_
    rintro e wf ⟨rfl, hb⟩
    have HBf := Lib.hid (HBe.out.trans (hb.mono HBe.out.size))
    clear hb
    go_wp2_with fail
    go_ret
    exact ⟨rfl, HBf.out⟩
end Go.Proofs.Ytlceeeajhejedaa
