/- A world as something goes on with it, in memory of its own. -/
import Derived.Test.YtciohjgcndgiaaaGreatDoorOwnPlan
import Derived.Test.YtciohjgcndgiaaaGreatDoorMeth
import Derived.Test.YtciohjgcndgiaaaGreatDoorSpecs
set_option linter.unusedSimpArgs false
set_option linter.unusedVariables false
namespace Go.Proofs.YtciohjgcndgiaaaGreatDoor
open Go.RowKit Go.Proofs.YtciohjgcndgiaaaGreatDoor.Kind

/-- The blocks that what goes on with a world may write: old ones, those of X apart, its box, its dials, its lookups. -/
def EvNX (base : Nat) (X : Nat → Prop) (g : Nat) (v : Wv) : Nat → Prop := fun b => (b < base ∨ X b) ∨ b = g ∨ (0 < v.ic ∧ b = bkN v.ia v.ic 0) ∨ (0 < v.lc ∧ b = bkN v.la v.lc 0)
/-- A world in memory of its own, from block base on, its box at g, nothing of it in the blocks X. -/
structure EvX (base : Nat) (X : Nat → Prop) (W : World) (g : Nat) (v : Wv) (A : Wo) : Prop where
  box : W.heap[g]? = some (.cells #[.slice v.p.za A.plan.zones.length v.p.zc, .slice v.p.fa A.plan.fates.length v.p.fc, .int .i64 A.plan.ticks, .slice v.p.da A.plan.drops.length v.p.dc, .int .i64 A.clock, .slice v.sa A.socks.length v.sc, .slice v.ia A.dials.length v.ic, .slice v.la A.looks.length v.lc, .int .i64 A.dropped, .slice v.ma A.marks.length v.mc] 74 (0, 0))
  hg : base ≤ g
  plan : PlanN (EvNX base X g v) W v.p A.plan
  socks : SK.OffC (EvNX base X g v) W v.sa v.sc A.socks
  marks : NK.OffC (EvNX base X g v) W v.ma v.mc A.marks
  dials : DK.Loose W base v.ia v.ic A.dials
  looks : LK.Loose W base v.la v.lc A.looks
  dg : 0 < v.ic → bkN v.ia v.ic 0 ≠ g
  lg : 0 < v.lc → bkN v.la v.lc 0 ≠ g
  dl : 0 < v.ic → 0 < v.lc → bkN v.ia v.ic 0 ≠ bkN v.la v.lc 0
  xg : ¬ X g
  xd : 0 < v.ic → ¬ X (bkN v.ia v.ic 0)
  xl : 0 < v.lc → ¬ X (bkN v.la v.lc 0)
  xlt : ∀ b, X b → b < W.heap.size
abbrev EvIn (base : Nat) (W : World) (g : Nat) (v : Wv) (A : Wo) : Prop := EvX base (fun _ => False) W g v A
section
variable {base g : Nat} {X : Nat → Prop} {W W' : World} {v : Wv} {A : Wo}
theorem EvX.below (h : EvX base X W g v A) (hb : Below W.heap.size W W') : EvX base X W' g v A :=
  ⟨(hb.block _ (lt_of_block h.box)).trans h.box, h.hg, h.plan.below hb, h.socks.below hb, h.marks.below hb, h.dials.below hb, h.looks.below hb, h.dg, h.lg, h.dl, h.xg, h.xd, h.xl, fun b hx => Nat.lt_of_lt_of_le (h.xlt b hx) hb.size⟩
/-- All of it, in none of the old blocks. -/
theorem EvX.flat (h : EvX base X W g v A) {N : Nat → Prop} (hN : ∀ b, N b → b < base) : FlatN N W v A :=
  ⟨h.plan.more (fun b hb => .inl (.inl (.inl (hN b hb)))), h.socks.less (fun b hb => .inl (.inl (hN b hb))), h.dials.off (fun b h1 _ _ hn => by have := hN b hn; omega), h.looks.off (fun b h1 _ _ hn => by have := hN b hn; omega), h.marks.less (fun b hb => .inl (.inl (hN b hb)))⟩
theorem EvX.world (h : EvX base X W g v A) : WorldC W v A := (h.flat (N := fun _ => False) (fun _ h => h.elim)).world
/-- Blocks made later are apart. -/
theorem EvX.apart (h : EvX base X W g v A) {Y : Nat → Prop} (hb : Below W.heap.size W W') (hY : ∀ b, Y b → W.heap.size ≤ b ∧ b < W'.heap.size) : EvX base (fun b => X b ∨ Y b) W' g v A := by
  have hl : ∀ b, EvNX base (fun b => X b ∨ Y b) g v b → EvNX base X g v b ∨ W.heap.size ≤ b := fun b hb' => by
    rcases hb' with (h1 | h1 | h1) | h1
    · exact .inl (.inl (.inl h1))
    · exact .inl (.inl (.inr h1))
    · exact .inr (hY b h1).1
    · exact .inl (.inr h1)
  have hdl : 0 < v.ic → bkN v.ia v.ic 0 < W.heap.size := fun hc => by
    obtain ⟨g', o, e, _, h2, _⟩ := h.dials.2.2.2 hc
    rw [bk_some e hc]
    exact h2
  have hll : 0 < v.lc → bkN v.la v.lc 0 < W.heap.size := fun hc => by
    obtain ⟨g', o, e, _, h2, _⟩ := h.looks.2.2.2 hc
    rw [bk_some e hc]
    exact h2
  exact ⟨(hb.block _ (lt_of_block h.box)).trans h.box, h.hg, (h.plan.more hl).below hb, (h.socks.more hl).below hb, (h.marks.more hl).below hb, h.dials.below hb, h.looks.below hb, h.dg, h.lg, h.dl,
    fun hx => hx.elim h.xg (fun hy => by have := (hY g hy).1; have := lt_of_block h.box; omega),
    fun hc hx => hx.elim (h.xd hc) (fun hy => by have := (hY _ hy).1; have := hdl hc; omega),
    fun hc hx => hx.elim (h.xl hc) (fun hy => by have := (hY _ hy).1; have := hll hc; omega),
    fun b hx => hx.elim (fun h1 => Nat.lt_of_lt_of_le (h.xlt b h1) hb.size) (fun hy => (hY b hy).2)⟩
/-- A store into a block that is apart. -/
theorem EvX.setX (h : EvX base X W g v A) {p : Addr} (hp : X p.block) (x : Value) : EvX base X (W.setCell p x) g v A :=
  ⟨(Below.heap_setCell W p x g (fun e => h.xg (e ▸ hp))).trans h.box, h.hg, h.plan.set (.inl (.inr hp)) x, h.socks.set (.inl (.inr hp)) x, h.marks.set (.inl (.inr hp)) x,
    h.dials.but (But.set (N := fun b => b = p.block) rfl x) (fun ad e hc hn => h.xd hc (by rw [bk_some e hc, hn]; exact hp)),
    h.looks.but (But.set (N := fun b => b = p.block) rfl x) (fun ad e hc hn => h.xl hc (by rw [bk_some e hc, hn]; exact hp)), h.dg, h.lg, h.dl, h.xg, h.xd, h.xl, fun b hx => by have := h.xlt b hx; simpa using this⟩
/-- What is apart may be forgotten. -/
theorem EvX.bare (h : EvX base X W g v A) : EvIn base W g v A :=
  have hl : ∀ b, EvNX base (fun _ => False) g v b → EvNX base X g v b := fun b hb => by
    rcases hb with (h1 | h1) | h1
    · exact .inl (.inl h1)
    · exact h1.elim
    · exact .inr h1
  ⟨h.box, h.hg, h.plan.more (fun b hb => .inl (hl b hb)), h.socks.less hl, h.marks.less hl, h.dials, h.looks, h.dg, h.lg, h.dl, fun hx => hx, fun _ hx => hx, fun _ hx => hx, fun _ hx => hx.elim⟩
end
set_option maxHeartbeats 20000000 in
set_option maxRecDepth 1000000 in
theorem begin_any (A : Wo) (v : Wv) (w : World) (hRm : Room A) (hA : WorldC w v A) :
    Calls Tryz.prog 20 #[v.val A] w fun e w' => ∃ u g, e = .returned (.pointer (some ⟨g, 0, none⟩)) ∧ EvIn w.heap.size w' g u A ∧ Below w.heap.size w w' := by
  have hfit := hRm.fit
  have HA := Lib.hid hA
  have HR := Lib.hid hRm
  have HOw := Lib.hid (fun W (h : PlanC W v.p A.plan) => own_plan A.plan v.p W hfit h)
  clear hA hRm hfit
  simp only [Wv.val, Wv.cells, Pv.val] at HOw ⊢
  have hb := below1 w (.cells #[.slice v.p.za A.plan.zones.length v.p.zc, .slice v.p.fa A.plan.fates.length v.p.fc, .int .i64 A.plan.ticks, .slice v.p.da A.plan.drops.length v.p.dc, .int .i64 A.clock, .slice v.sa A.socks.length v.sc, .slice v.ia A.dials.length v.ic, .slice v.la A.looks.length v.lc, .int .i64 A.dropped, .slice v.ma A.marks.length v.mc] 32)
  have hL := laid1 w (.cells #[.slice v.p.za A.plan.zones.length v.p.zc, .slice v.p.fa A.plan.fates.length v.p.fc, .int .i64 A.plan.ticks, .slice v.p.da A.plan.drops.length v.p.dc, .int .i64 A.clock, .slice v.sa A.socks.length v.sc, .slice v.ia A.dials.length v.ic, .slice v.la A.looks.length v.lc, .int .i64 A.dropped, .slice v.ma A.marks.length v.mc] 32)
  go_enter Tryz.func20, Tryz.ntmps20
  go_upto_region 1 with fail
  obtain ⟨w1, hw1⟩ : ∃ X, X = w.alloc (.cells #[.slice v.p.za A.plan.zones.length v.p.zc, .slice v.p.fa A.plan.fates.length v.p.fc, .int .i64 A.plan.ticks, .slice v.p.da A.plan.drops.length v.p.dc, .int .i64 A.clock, .slice v.sa A.socks.length v.sc, .slice v.ia A.dials.length v.ic, .slice v.la A.looks.length v.lc, .int .i64 A.dropped, .slice v.ma A.marks.length v.mc] 32) := ⟨_, rfl⟩
  have hsz1 : w1.heap.size = w.heap.size + 1 := by rw [hw1]; simp
  rw [← hw1] at hb hL ⊢
  clear hw1
  have HB := Lib.hid hb
  have Hp := Lib.hid hL
  have HX := Lib.hid (HOw.out w1 (HA.out.plan.below hb))
  obtain ⟨⟨x0, x1, x2, x3, x4, x5, x6, x7, x8, x9⟩, f0, f1, f2, f3, f4, f5, f6, f7, f8, f9⟩ := boxes10 Hp.out
  clear hL hb HOw
  go_wp2_with fail
  with_reducible refine HX.out.mono ?_
  rintro e w2 ⟨u, rfl, hpl, hb2⟩
  clear x0 x1 x2 x3 x4 x5 x6 x7 x8 x9 f0 f1 f2 f3 f4 f5 f6 f7 f8 f9
  clear HX
  obtain ⟨l1, hl1⟩ : ∃ X, X = w1.heap.size := ⟨_, rfl⟩
  have h12 := hb2.size
  obtain ⟨l2, hl2⟩ : ∃ X, X = w2.heap.size := ⟨_, rfl⟩
  rw [← hl1, ← hl2] at h12
  rw [← hl1] at hpl hsz1
  have HPl := Lib.hid (hpl.more (M := fun b => b < l1 ∨ l2 ≤ b) (fun b hb => by omega))
  replace Hp := Lib.hid ((hb2.block _ (lt_of_block Hp.out)).trans Hp.out)
  replace HB := Lib.hid (HB.out.trans (hb2.mono HB.out.size))
  clear hb2 hpl hl1
  obtain ⟨⟨x0, x1, x2, x3, x4, x5, x6, x7, x8, x9⟩, f0, f1, f2, f3, f4, f5, f6, f7, f8, f9⟩ := boxes10 Hp.out
  go_upto_region 2 with fail
  clear x0 x1 x2 x3 x4 x5 x6 x7 x8 x9 f0 f1 f2 f3 f4 f5 f6 f7 f8 f9
  obtain ⟨w3, hnew⟩ : ∃ X, X = ((((w2.setCell ⟨w.heap.size, 0, none⟩ (.slice u.za A.plan.zones.length u.zc)).setCell ⟨w.heap.size, 1, none⟩ (.slice u.fa A.plan.fates.length u.fc)).setCell ⟨w.heap.size, 2, none⟩ (.int .i64 A.plan.ticks)).setCell ⟨w.heap.size, 3, none⟩ (.slice u.da A.plan.drops.length u.dc)) := ⟨_, rfl⟩
  have hp0 : (w2.setCell ⟨w.heap.size, 0, none⟩ (.slice u.za A.plan.zones.length u.zc)).heap[w.heap.size]? = some (.cells #[.slice u.za A.plan.zones.length u.zc, .slice v.p.fa A.plan.fates.length v.p.fc, .int .i64 A.plan.ticks, .slice v.p.da A.plan.drops.length v.p.dc, .int .i64 A.clock, .slice v.sa A.socks.length v.sc, .slice v.ia A.dials.length v.ic, .slice v.la A.looks.length v.lc, .int .i64 A.dropped, .slice v.ma A.marks.length v.mc] 32 (0, 0)) := set_at Hp.out 0 _
  have hp1 : ((w2.setCell ⟨w.heap.size, 0, none⟩ (.slice u.za A.plan.zones.length u.zc)).setCell ⟨w.heap.size, 1, none⟩ (.slice u.fa A.plan.fates.length u.fc)).heap[w.heap.size]? = some (.cells #[.slice u.za A.plan.zones.length u.zc, .slice u.fa A.plan.fates.length u.fc, .int .i64 A.plan.ticks, .slice v.p.da A.plan.drops.length v.p.dc, .int .i64 A.clock, .slice v.sa A.socks.length v.sc, .slice v.ia A.dials.length v.ic, .slice v.la A.looks.length v.lc, .int .i64 A.dropped, .slice v.ma A.marks.length v.mc] 32 (0, 0)) := set_at hp0 1 _
  have hp2 : (((w2.setCell ⟨w.heap.size, 0, none⟩ (.slice u.za A.plan.zones.length u.zc)).setCell ⟨w.heap.size, 1, none⟩ (.slice u.fa A.plan.fates.length u.fc)).setCell ⟨w.heap.size, 2, none⟩ (.int .i64 A.plan.ticks)).heap[w.heap.size]? = some (.cells #[.slice u.za A.plan.zones.length u.zc, .slice u.fa A.plan.fates.length u.fc, .int .i64 A.plan.ticks, .slice v.p.da A.plan.drops.length v.p.dc, .int .i64 A.clock, .slice v.sa A.socks.length v.sc, .slice v.ia A.dials.length v.ic, .slice v.la A.looks.length v.lc, .int .i64 A.dropped, .slice v.ma A.marks.length v.mc] 32 (0, 0)) := set_at hp1 2 _
  have hp3 : ((((w2.setCell ⟨w.heap.size, 0, none⟩ (.slice u.za A.plan.zones.length u.zc)).setCell ⟨w.heap.size, 1, none⟩ (.slice u.fa A.plan.fates.length u.fc)).setCell ⟨w.heap.size, 2, none⟩ (.int .i64 A.plan.ticks)).setCell ⟨w.heap.size, 3, none⟩ (.slice u.da A.plan.drops.length u.dc)).heap[w.heap.size]? = some (.cells #[.slice u.za A.plan.zones.length u.zc, .slice u.fa A.plan.fates.length u.fc, .int .i64 A.plan.ticks, .slice u.da A.plan.drops.length u.dc, .int .i64 A.clock, .slice v.sa A.socks.length v.sc, .slice v.ia A.dials.length v.ic, .slice v.la A.looks.length v.lc, .int .i64 A.dropped, .slice v.ma A.marks.length v.mc] 32 (0, 0)) := set_at hp2 3 _
  have hbn := ((((HB.out.setCell (p := ⟨w.heap.size, 0, none⟩) (Nat.le_refl _) (.slice u.za A.plan.zones.length u.zc)).setCell (p := ⟨w.heap.size, 1, none⟩) (Nat.le_refl _) (.slice u.fa A.plan.fates.length u.fc)).setCell (p := ⟨w.heap.size, 2, none⟩) (Nat.le_refl _) (.int .i64 A.plan.ticks)).setCell (p := ⟨w.heap.size, 3, none⟩) (Nat.le_refl _) (.slice u.da A.plan.drops.length u.dc))
  have hnPl := ((((HPl.out.set (p := ⟨w.heap.size, 0, none⟩) (by dsimp only; omega) (.slice u.za A.plan.zones.length u.zc)).set (p := ⟨w.heap.size, 1, none⟩) (by dsimp only; omega) (.slice u.fa A.plan.fates.length u.fc)).set (p := ⟨w.heap.size, 2, none⟩) (by dsimp only; omega) (.int .i64 A.plan.ticks)).set (p := ⟨w.heap.size, 3, none⟩) (by dsimp only; omega) (.slice u.da A.plan.drops.length u.dc))
  have hszn : ((((w2.setCell ⟨w.heap.size, 0, none⟩ (.slice u.za A.plan.zones.length u.zc)).setCell ⟨w.heap.size, 1, none⟩ (.slice u.fa A.plan.fates.length u.fc)).setCell ⟨w.heap.size, 2, none⟩ (.int .i64 A.plan.ticks)).setCell ⟨w.heap.size, 3, none⟩ (.slice u.da A.plan.drops.length u.dc)).heap.size = w2.heap.size := by simp
  rw [← hnew] at hp3 hbn hnPl hszn ⊢
  clear hnew hp0 hp1 hp2
  replace Hp := Lib.hid hp3
  replace HB := Lib.hid hbn
  replace HPl := Lib.hid hnPl
  clear hp3 hbn hnPl
  rw [← hl2] at hszn
  have HX := Lib.hid (cl_socks A.socks A.socks.length rfl v.sa v.sc w3 (HA.out.socks.below HB.out) (by have h := HR.out.socks; have hk : SK.bytes ≤ 64 := (by decide); have := Nat.mul_le_mul h hk; omega))
  obtain ⟨⟨x0, x1, x2, x3, x4, x5, x6, x7, x8, x9⟩, f0, f1, f2, f3, f4, f5, f6, f7, f8, f9⟩ := boxes10 Hp.out
  go_wp2_with fail
  with_reducible refine HX.out.mono ?_
  rintro e wAS ⟨aS, cS, rfl, hlo, hb2⟩
  clear x0 x1 x2 x3 x4 x5 x6 x7 x8 x9 f0 f1 f2 f3 f4 f5 f6 f7 f8 f9
  clear HX
  have hsS := hb2.size
  rw [hszn] at hsS hlo
  obtain ⟨lS, hlS⟩ : ∃ X, X = wAS.heap.size := ⟨_, rfl⟩
  rw [← hlS] at hsS
  replace Hp := Lib.hid ((hb2.block _ (lt_of_block Hp.out)).trans Hp.out)
  replace HB := Lib.hid (HB.out.trans (hb2.mono HB.out.size))
  replace HPl := Lib.hid (HPl.out.below hb2)
  clear hb2 hszn
  have HS := Lib.hid (hlo.off (N := fun b => b < l2 ∨ lS ≤ b) (fun b h1 h2 _ hn => by omega))
  clear hlo
  obtain ⟨⟨x0, x1, x2, x3, x4, x5, x6, x7, x8, x9⟩, f0, f1, f2, f3, f4, f5, f6, f7, f8, f9⟩ := boxes10 Hp.out
  go_upto_region 3 with fail
  clear x0 x1 x2 x3 x4 x5 x6 x7 x8 x9 f0 f1 f2 f3 f4 f5 f6 f7 f8 f9
  obtain ⟨wBS, hnew⟩ : ∃ X, X = (wAS.setCell ⟨w.heap.size, 5, none⟩ (.slice aS A.socks.length cS)) := ⟨_, rfl⟩
  have hp0 : (wAS.setCell ⟨w.heap.size, 5, none⟩ (.slice aS A.socks.length cS)).heap[w.heap.size]? = some (.cells #[.slice u.za A.plan.zones.length u.zc, .slice u.fa A.plan.fates.length u.fc, .int .i64 A.plan.ticks, .slice u.da A.plan.drops.length u.dc, .int .i64 A.clock, .slice aS A.socks.length cS, .slice v.ia A.dials.length v.ic, .slice v.la A.looks.length v.lc, .int .i64 A.dropped, .slice v.ma A.marks.length v.mc] 32 (0, 0)) := set_at Hp.out 5 _
  have hbn := (HB.out.setCell (p := ⟨w.heap.size, 5, none⟩) (Nat.le_refl _) (.slice aS A.socks.length cS))
  have hnPl := (HPl.out.set (p := ⟨w.heap.size, 5, none⟩) (by dsimp only; omega) (.slice aS A.socks.length cS))
  have hnS := (HS.out.set (p := ⟨w.heap.size, 5, none⟩) (by dsimp only; omega) (.slice aS A.socks.length cS))
  have hszn : (wAS.setCell ⟨w.heap.size, 5, none⟩ (.slice aS A.socks.length cS)).heap.size = wAS.heap.size := by simp
  rw [← hnew] at hp0 hbn hnPl hnS hszn ⊢
  clear hnew
  replace Hp := Lib.hid hp0
  replace HB := Lib.hid hbn
  replace HPl := Lib.hid hnPl
  replace HS := Lib.hid hnS
  clear hp0 hbn hnPl hnS
  rw [← hlS] at hszn
  clear hlS
  have HX := Lib.hid (cl_dials A.dials A.dials.length rfl v.ia v.ic wBS (HA.out.dials.below HB.out) (by have h := HR.out.dials; have hk : DK.bytes ≤ 64 := (by decide); have := Nat.mul_le_mul h hk; omega))
  obtain ⟨⟨x0, x1, x2, x3, x4, x5, x6, x7, x8, x9⟩, f0, f1, f2, f3, f4, f5, f6, f7, f8, f9⟩ := boxes10 Hp.out
  go_wp2_with fail
  with_reducible refine HX.out.mono ?_
  rintro e wAD ⟨aD, cD, rfl, hlo, hb2⟩
  clear x0 x1 x2 x3 x4 x5 x6 x7 x8 x9 f0 f1 f2 f3 f4 f5 f6 f7 f8 f9
  clear HX
  have hsD := hb2.size
  rw [hszn] at hsD hlo
  obtain ⟨lD, hlD⟩ : ∃ X, X = wAD.heap.size := ⟨_, rfl⟩
  rw [← hlD] at hsD
  replace Hp := Lib.hid ((hb2.block _ (lt_of_block Hp.out)).trans Hp.out)
  replace HB := Lib.hid (HB.out.trans (hb2.mono HB.out.size))
  replace HPl := Lib.hid (HPl.out.below hb2)
  replace HS := Lib.hid (HS.out.below hb2)
  clear hb2 hszn
  have hbkD : 0 < cD → lS ≤ bkN aD cD 0 ∧ bkN aD cD 0 < lD := fun hc => ⟨by have h := hlo.2.2.2 hc; obtain ⟨g, o, e, h1, _⟩ := h; rw [bk_some e hc]; exact h1, by have h := hlo.2.2.2 hc; obtain ⟨g, o, e, h1, h2, _⟩ := h; rw [bk_some e hc, hlD]; exact h2⟩
  have HD := Lib.hid hlo
  clear hlo
  obtain ⟨⟨x0, x1, x2, x3, x4, x5, x6, x7, x8, x9⟩, f0, f1, f2, f3, f4, f5, f6, f7, f8, f9⟩ := boxes10 Hp.out
  go_upto_region 4 with fail
  clear x0 x1 x2 x3 x4 x5 x6 x7 x8 x9 f0 f1 f2 f3 f4 f5 f6 f7 f8 f9
  obtain ⟨wBD, hnew⟩ : ∃ X, X = (wAD.setCell ⟨w.heap.size, 6, none⟩ (.slice aD A.dials.length cD)) := ⟨_, rfl⟩
  have hp0 : (wAD.setCell ⟨w.heap.size, 6, none⟩ (.slice aD A.dials.length cD)).heap[w.heap.size]? = some (.cells #[.slice u.za A.plan.zones.length u.zc, .slice u.fa A.plan.fates.length u.fc, .int .i64 A.plan.ticks, .slice u.da A.plan.drops.length u.dc, .int .i64 A.clock, .slice aS A.socks.length cS, .slice aD A.dials.length cD, .slice v.la A.looks.length v.lc, .int .i64 A.dropped, .slice v.ma A.marks.length v.mc] 32 (0, 0)) := set_at Hp.out 6 _
  have hbn := (HB.out.setCell (p := ⟨w.heap.size, 6, none⟩) (Nat.le_refl _) (.slice aD A.dials.length cD))
  have hnPl := (HPl.out.set (p := ⟨w.heap.size, 6, none⟩) (by dsimp only; omega) (.slice aD A.dials.length cD))
  have hnS := (HS.out.set (p := ⟨w.heap.size, 6, none⟩) (by dsimp only; omega) (.slice aD A.dials.length cD))
  have hnD := (HD.out.set (p := ⟨w.heap.size, 6, none⟩) (by dsimp only; omega) (.slice aD A.dials.length cD))
  have hszn : (wAD.setCell ⟨w.heap.size, 6, none⟩ (.slice aD A.dials.length cD)).heap.size = wAD.heap.size := by simp
  rw [← hnew] at hp0 hbn hnPl hnS hnD hszn ⊢
  clear hnew
  replace Hp := Lib.hid hp0
  replace HB := Lib.hid hbn
  replace HPl := Lib.hid hnPl
  replace HS := Lib.hid hnS
  replace HD := Lib.hid hnD
  clear hp0 hbn hnPl hnS hnD
  rw [← hlD] at hszn
  clear hlD
  have HX := Lib.hid (cl_looks A.looks A.looks.length rfl v.la v.lc wBD (HA.out.looks.below HB.out) (by have h := HR.out.looks; have hk : LK.bytes ≤ 64 := (by decide); have := Nat.mul_le_mul h hk; omega))
  obtain ⟨⟨x0, x1, x2, x3, x4, x5, x6, x7, x8, x9⟩, f0, f1, f2, f3, f4, f5, f6, f7, f8, f9⟩ := boxes10 Hp.out
  go_wp2_with fail
  with_reducible refine HX.out.mono ?_
  rintro e wAL ⟨aL, cL, rfl, hlo, hb2⟩
  clear x0 x1 x2 x3 x4 x5 x6 x7 x8 x9 f0 f1 f2 f3 f4 f5 f6 f7 f8 f9
  clear HX
  have hsL := hb2.size
  rw [hszn] at hsL hlo
  obtain ⟨lL, hlL⟩ : ∃ X, X = wAL.heap.size := ⟨_, rfl⟩
  rw [← hlL] at hsL
  replace Hp := Lib.hid ((hb2.block _ (lt_of_block Hp.out)).trans Hp.out)
  replace HB := Lib.hid (HB.out.trans (hb2.mono HB.out.size))
  replace HPl := Lib.hid (HPl.out.below hb2)
  replace HS := Lib.hid (HS.out.below hb2)
  replace HD := Lib.hid (HD.out.below hb2)
  clear hb2 hszn
  have hbkL : 0 < cL → lD ≤ bkN aL cL 0 ∧ bkN aL cL 0 < lL := fun hc => ⟨by have h := hlo.2.2.2 hc; obtain ⟨g, o, e, h1, _⟩ := h; rw [bk_some e hc]; exact h1, by have h := hlo.2.2.2 hc; obtain ⟨g, o, e, h1, h2, _⟩ := h; rw [bk_some e hc, hlL]; exact h2⟩
  have HL := Lib.hid hlo
  clear hlo
  obtain ⟨⟨x0, x1, x2, x3, x4, x5, x6, x7, x8, x9⟩, f0, f1, f2, f3, f4, f5, f6, f7, f8, f9⟩ := boxes10 Hp.out
  go_upto_region 5 with fail
  clear x0 x1 x2 x3 x4 x5 x6 x7 x8 x9 f0 f1 f2 f3 f4 f5 f6 f7 f8 f9
  obtain ⟨wBL, hnew⟩ : ∃ X, X = (wAL.setCell ⟨w.heap.size, 7, none⟩ (.slice aL A.looks.length cL)) := ⟨_, rfl⟩
  have hp0 : (wAL.setCell ⟨w.heap.size, 7, none⟩ (.slice aL A.looks.length cL)).heap[w.heap.size]? = some (.cells #[.slice u.za A.plan.zones.length u.zc, .slice u.fa A.plan.fates.length u.fc, .int .i64 A.plan.ticks, .slice u.da A.plan.drops.length u.dc, .int .i64 A.clock, .slice aS A.socks.length cS, .slice aD A.dials.length cD, .slice aL A.looks.length cL, .int .i64 A.dropped, .slice v.ma A.marks.length v.mc] 32 (0, 0)) := set_at Hp.out 7 _
  have hbn := (HB.out.setCell (p := ⟨w.heap.size, 7, none⟩) (Nat.le_refl _) (.slice aL A.looks.length cL))
  have hnPl := (HPl.out.set (p := ⟨w.heap.size, 7, none⟩) (by dsimp only; omega) (.slice aL A.looks.length cL))
  have hnS := (HS.out.set (p := ⟨w.heap.size, 7, none⟩) (by dsimp only; omega) (.slice aL A.looks.length cL))
  have hnD := (HD.out.set (p := ⟨w.heap.size, 7, none⟩) (by dsimp only; omega) (.slice aL A.looks.length cL))
  have hnL := (HL.out.set (p := ⟨w.heap.size, 7, none⟩) (by dsimp only; omega) (.slice aL A.looks.length cL))
  have hszn : (wAL.setCell ⟨w.heap.size, 7, none⟩ (.slice aL A.looks.length cL)).heap.size = wAL.heap.size := by simp
  rw [← hnew] at hp0 hbn hnPl hnS hnD hnL hszn ⊢
  clear hnew
  replace Hp := Lib.hid hp0
  replace HB := Lib.hid hbn
  replace HPl := Lib.hid hnPl
  replace HS := Lib.hid hnS
  replace HD := Lib.hid hnD
  replace HL := Lib.hid hnL
  clear hp0 hbn hnPl hnS hnD hnL
  rw [← hlL] at hszn
  clear hlL
  have HX := Lib.hid (cl_marks A.marks A.marks.length rfl v.ma v.mc wBL (HA.out.marks.below HB.out) (by have h := HR.out.marks; have hk : NK.bytes ≤ 64 := (by decide); have := Nat.mul_le_mul h hk; omega))
  obtain ⟨⟨x0, x1, x2, x3, x4, x5, x6, x7, x8, x9⟩, f0, f1, f2, f3, f4, f5, f6, f7, f8, f9⟩ := boxes10 Hp.out
  go_wp2_with fail
  with_reducible refine HX.out.mono ?_
  rintro e wAM ⟨aM, cM, rfl, hlo, hb2⟩
  clear x0 x1 x2 x3 x4 x5 x6 x7 x8 x9 f0 f1 f2 f3 f4 f5 f6 f7 f8 f9
  clear HX
  have hsM := hb2.size
  rw [hszn] at hsM hlo
  obtain ⟨lM, hlM⟩ : ∃ X, X = wAM.heap.size := ⟨_, rfl⟩
  rw [← hlM] at hsM
  replace Hp := Lib.hid ((hb2.block _ (lt_of_block Hp.out)).trans Hp.out)
  replace HB := Lib.hid (HB.out.trans (hb2.mono HB.out.size))
  replace HPl := Lib.hid (HPl.out.below hb2)
  replace HS := Lib.hid (HS.out.below hb2)
  replace HD := Lib.hid (HD.out.below hb2)
  replace HL := Lib.hid (HL.out.below hb2)
  clear hb2 hszn
  have HM := Lib.hid (hlo.off (N := fun b => b < lL ∨ lM ≤ b) (fun b h1 h2 _ hn => by omega))
  clear hlo
  obtain ⟨⟨x0, x1, x2, x3, x4, x5, x6, x7, x8, x9⟩, f0, f1, f2, f3, f4, f5, f6, f7, f8, f9⟩ := boxes10 Hp.out
  go_upto_region 6 with fail
  clear x0 x1 x2 x3 x4 x5 x6 x7 x8 x9 f0 f1 f2 f3 f4 f5 f6 f7 f8 f9
  obtain ⟨wBM, hnew⟩ : ∃ X, X = (wAM.setCell ⟨w.heap.size, 9, none⟩ (.slice aM A.marks.length cM)) := ⟨_, rfl⟩
  have hp0 : (wAM.setCell ⟨w.heap.size, 9, none⟩ (.slice aM A.marks.length cM)).heap[w.heap.size]? = some (.cells #[.slice u.za A.plan.zones.length u.zc, .slice u.fa A.plan.fates.length u.fc, .int .i64 A.plan.ticks, .slice u.da A.plan.drops.length u.dc, .int .i64 A.clock, .slice aS A.socks.length cS, .slice aD A.dials.length cD, .slice aL A.looks.length cL, .int .i64 A.dropped, .slice aM A.marks.length cM] 32 (0, 0)) := set_at Hp.out 9 _
  have hbn := (HB.out.setCell (p := ⟨w.heap.size, 9, none⟩) (Nat.le_refl _) (.slice aM A.marks.length cM))
  have hnPl := (HPl.out.set (p := ⟨w.heap.size, 9, none⟩) (by dsimp only; omega) (.slice aM A.marks.length cM))
  have hnS := (HS.out.set (p := ⟨w.heap.size, 9, none⟩) (by dsimp only; omega) (.slice aM A.marks.length cM))
  have hnD := (HD.out.set (p := ⟨w.heap.size, 9, none⟩) (by dsimp only; omega) (.slice aM A.marks.length cM))
  have hnL := (HL.out.set (p := ⟨w.heap.size, 9, none⟩) (by dsimp only; omega) (.slice aM A.marks.length cM))
  have hnM := (HM.out.set (p := ⟨w.heap.size, 9, none⟩) (by dsimp only; omega) (.slice aM A.marks.length cM))
  have hszn : (wAM.setCell ⟨w.heap.size, 9, none⟩ (.slice aM A.marks.length cM)).heap.size = wAM.heap.size := by simp
  rw [← hnew] at hp0 hbn hnPl hnS hnD hnL hnM hszn ⊢
  clear hnew
  replace Hp := Lib.hid hp0
  replace HB := Lib.hid hbn
  replace HPl := Lib.hid hnPl
  replace HS := Lib.hid hnS
  replace HD := Lib.hid hnD
  replace HL := Lib.hid hnL
  replace HM := Lib.hid hnM
  clear hp0 hbn hnPl hnS hnD hnL hnM
  rw [← hlM] at hszn
  clear hlM
  obtain ⟨⟨x0, x1, x2, x3, x4, x5, x6, x7, x8, x9⟩, f0, f1, f2, f3, f4, f5, f6, f7, f8, f9⟩ := boxes10 Hp.out
  have hld := loadW2 (v := ⟨u, aS, cS, aD, cD, aL, cL, aM, cM⟩) (A := A) Hp.out
  have HSZ := Lib.hid hszn
  clear hszn
  go_wp2_with fail
  have hszn := HSZ.out
  have hg1 := laid1 wBM (.cells #[.slice u.za A.plan.zones.length u.zc, .slice u.fa A.plan.fates.length u.fc, .int .i64 A.plan.ticks, .slice u.da A.plan.drops.length u.dc, .int .i64 A.clock, .slice aS A.socks.length cS, .slice aD A.dials.length cD, .slice aL A.looks.length cL, .int .i64 A.dropped, .slice aM A.marks.length cM] 74)
  have hb1 := below1 wBM (.cells #[.slice u.za A.plan.zones.length u.zc, .slice u.fa A.plan.fates.length u.fc, .int .i64 A.plan.ticks, .slice u.da A.plan.drops.length u.dc, .int .i64 A.clock, .slice aS A.socks.length cS, .slice aD A.dials.length cD, .slice aL A.looks.length cL, .int .i64 A.dropped, .slice aM A.marks.length cM] 74)
  go_ret
  have hEN : ∀ b, EvNX w.heap.size (fun _ => False) wBM.heap.size ⟨u, aS, cS, aD, cD, aL, cL, aM, cM⟩ b → b < w.heap.size ∨ b = wBM.heap.size ∨ (lS ≤ b ∧ b < lD) ∨ (lD ≤ b ∧ b < lL) := fun b hb => by
    rcases hb with (hb | hb) | hb | ⟨hc, hb⟩ | ⟨hc, hb⟩
    · exact .inl hb
    · exact hb.elim
    · exact .inr (.inl hb)
    · have := hbkD hc; dsimp only at hb; omega
    · have := hbkL hc; dsimp only at hb; omega
  refine ⟨⟨u, aS, cS, aD, cD, aL, cL, aM, cM⟩, wBM.heap.size, rfl, ⟨hg1, HB.out.size, (HPl.out.below hb1).more (fun b hb => ?_), (HS.out.below hb1).less (fun b hb => ?_), (HM.out.below hb1).less (fun b hb => ?_), (HD.out.below hb1).mono (by omega), (HL.out.below hb1).mono (by omega), fun hc => ?_, fun hc => ?_, fun hc hc2 => ?_, fun hx => hx, fun _ hx => hx, fun _ hx => hx, fun _ hx => hx.elim⟩, HB.out.alloc HB.out.size _⟩
  · have := hEN b hb; omega
  · have := hEN b hb; omega
  · have := hEN b hb; omega
  · have := hbkD hc; dsimp only; omega
  · have := hbkL hc; dsimp only; omega
  · have := hbkD hc; have := hbkL hc2; dsimp only; omega
end Go.Proofs.YtciohjgcndgiaaaGreatDoor

set_option linter.unusedSimpArgs false
set_option linter.unusedVariables false
namespace Go.Proofs.YtciohjgcndgiaaaGreatDoor
open Go.RowKit Go.Proofs.YtciohjgcndgiaaaGreatDoor.Kind

theorem box_set {w : World} {b : Nat} {cs : Array Value} {t : TypeId} (h : w.heap[b]? = some (.cells cs t (0, 0))) (i : Nat) (x : Value) {ds : Array Value} (e : cs.setIfInBounds i x = ds) : (w.setCell ⟨b, i, none⟩ x).heap[b]? = some (.cells ds t (0, 0)) := by
  rw [← e]
  exact set_at h i x
section
variable {base g : Nat} {X : Nat → Prop} {W W' : World} {v : Wv} {A : Wo}
theorem EvX.dialsBut (h : EvX base X W g v A) {k : Nat} (x : Value) : DK.Loose (W.setCell ⟨g, k, none⟩ x) base v.ia v.ic A.dials :=
  h.dials.but (But.set (N := fun b => b = g) (p := ⟨g, k, none⟩) rfl x) (fun ad e hc hn => h.dg hc ((bk_some e hc).trans hn))
theorem EvX.looksBut (h : EvX base X W g v A) {k : Nat} (x : Value) : LK.Loose (W.setCell ⟨g, k, none⟩ x) base v.la v.lc A.looks :=
  h.looks.but (But.set (N := fun b => b = g) (p := ⟨g, k, none⟩) rfl x) (fun ad e hc hn => h.lg hc ((bk_some e hc).trans hn))
theorem EvX.clock (h : EvX base X W g v A) (k : Int) : EvX base X (W.setCell ⟨g, 4, none⟩ (.int .i64 k)) g v { A with clock := k } :=
  ⟨box_set h.box 4 _ rfl, h.hg, h.plan.set (.inr (.inl rfl)) _, h.socks.set (.inr (.inl rfl)) _, h.marks.set (.inr (.inl rfl)) _, h.dialsBut _, h.looksBut _, h.dg, h.lg, h.dl, h.xg, h.xd, h.xl, fun b hx => by have := h.xlt b hx; simpa using this⟩
theorem EvX.drops (h : EvX base X W g v A) (k : Int) : EvX base X (W.setCell ⟨g, 8, none⟩ (.int .i64 k)) g v { A with dropped := k } :=
  ⟨box_set h.box 8 _ rfl, h.hg, h.plan.set (.inr (.inl rfl)) _, h.socks.set (.inr (.inl rfl)) _, h.marks.set (.inr (.inl rfl)) _, h.dialsBut _, h.looksBut _, h.dg, h.lg, h.dl, h.xg, h.xd, h.xl, fun b hx => by have := h.xlt b hx; simpa using this⟩
theorem EvX.putSocks (h : EvX base X W g v A) {a : Option Addr} {c : Nat} {S : List Sk} (hS : SK.OffC (EvNX base X g v) W a c S) : EvX base X (W.setCell ⟨g, 5, none⟩ (.slice a S.length c)) g { v with sa := a, sc := c } { A with socks := S } :=
  ⟨box_set h.box 5 _ rfl, h.hg, h.plan.set (.inr (.inl rfl)) _, hS.set (.inr (.inl rfl)) _, h.marks.set (.inr (.inl rfl)) _, h.dialsBut _, h.looksBut _, h.dg, h.lg, h.dl, h.xg, h.xd, h.xl, fun b hx => by have := h.xlt b hx; simpa using this⟩
theorem EvX.putMarks (h : EvX base X W g v A) {a : Option Addr} {c : Nat} {S : List Nk} (hS : NK.OffC (EvNX base X g v) W a c S) : EvX base X (W.setCell ⟨g, 9, none⟩ (.slice a S.length c)) g { v with ma := a, mc := c } { A with marks := S } :=
  ⟨box_set h.box 9 _ rfl, h.hg, h.plan.set (.inr (.inl rfl)) _, h.socks.set (.inr (.inl rfl)) _, hS.set (.inr (.inl rfl)) _, h.dialsBut _, h.looksBut _, h.dg, h.lg, h.dl, h.xg, h.xd, h.xl, fun b hx => by have := h.xlt b hx; simpa using this⟩
/-- The blocks written are old ones, or lie below what is there. -/
theorem EvX.evlt (h : EvX base X W g v A) (hb : base ≤ W.heap.size) : ∀ b, EvNX base X g v b → b < W.heap.size := fun b hb' => by
  rcases hb' with (h1 | h1) | h1 | ⟨hc, h1⟩ | ⟨hc, h1⟩
  · omega
  · exact h.xlt b h1
  · subst h1; exact lt_of_block h.box
  · subst h1
    obtain ⟨g', o, e, _, h2, _⟩ := h.dials.2.2.2 hc
    rw [bk_some e hc]
    exact h2
  · subst h1
    obtain ⟨g', o, e, _, h2, _⟩ := h.looks.2.2.2 hc
    rw [bk_some e hc]
    exact h2
/-- A new row of one's own. -/
theorem EvX.off {α : Type} {K : Kind Tryz.prog α} (h : EvX base X W g v A) (hb : base ≤ W.heap.size) {a : Option Addr} {c : Nat} {l : List α} (hl : K.Loose W' W.heap.size a c l) : K.OffC (EvNX base X g v) W' a c l :=
  hl.off (fun b h1 _ _ hn => by have := h.evlt hb b hn; omega)
/-- One cell of a dial. -/
theorem EvX.pokeDial (h : EvX base X W g v A) {k i : Nat} {x y : Di} {u : Value} (hx : A.dials[k]? = some x) (hi : i < 14) (hy : y.enc = x.enc.set i u) :
    ∃ gd o, v.ia = some ⟨gd, o, none⟩ ∧ base ≤ gd ∧ gd ≠ g ∧ EvX base X (W.setCell ⟨gd, o + k * 14 + i, none⟩ u) g v { A with dials := A.dials.set k y } ∧ W.cell? ⟨gd, o + k * 14 + i, none⟩ = x.enc[i]? ∧ W.frozen? ⟨gd, o + k * 14 + i, none⟩ = false := by
  obtain ⟨gd, o, e, hb, hlt, hrow, hcell, hfz⟩ := h.dials.poke (K := DK) (i := i) (y := y) (v := u) hx hi hy
  have hc : 0 < v.ic := by have := h.dials.1; have := (List.getElem?_eq_some_iff.1 hx).1; omega
  have hbk : bkN v.ia v.ic 0 = gd := bk_some e hc
  have hne : gd ≠ g := fun e2 => h.dg hc (hbk.trans e2)
  have hN : EvNX base X g v gd := .inr (.inr (.inl ⟨hc, hbk.symm⟩))
  refine ⟨gd, o, e, hb, hne, ⟨?_, h.hg, h.plan.set (p := ⟨gd, o + k * 14 + i, none⟩) hN _, h.socks.set (p := ⟨gd, o + k * 14 + i, none⟩) hN _, h.marks.set (p := ⟨gd, o + k * 14 + i, none⟩) hN _, hrow, ?_, h.dg, h.lg, h.dl, h.xg, h.xd, h.xl, fun b hx => by have := h.xlt b hx; simpa using this⟩, hcell, hfz⟩
  · have hbox := (Below.heap_setCell W ⟨gd, o + k * 14 + i, none⟩ u g hne.symm).trans h.box
    simp only [List.length_set]
    exact hbox
  · exact h.looks.but (But.set (N := fun b => b = gd) (p := ⟨gd, o + k * 14 + i, none⟩) rfl u) (fun ad e2 hc2 hn => h.dl hc hc2 (by rw [hbk, bk_some e2 hc2]; exact hn.symm))
/-- One cell of a lookup. -/
theorem EvX.pokeLook (h : EvX base X W g v A) {k i : Nat} {x y : Lo} {u : Value} (hx : A.looks[k]? = some x) (hi : i < 4) (hy : y.enc = x.enc.set i u) :
    ∃ gd o, v.la = some ⟨gd, o, none⟩ ∧ base ≤ gd ∧ gd ≠ g ∧ EvX base X (W.setCell ⟨gd, o + k * 4 + i, none⟩ u) g v { A with looks := A.looks.set k y } ∧ W.cell? ⟨gd, o + k * 4 + i, none⟩ = x.enc[i]? ∧ W.frozen? ⟨gd, o + k * 4 + i, none⟩ = false := by
  obtain ⟨gd, o, e, hb, hlt, hrow, hcell, hfz⟩ := h.looks.poke (K := LK) (i := i) (y := y) (v := u) hx hi hy
  have hc : 0 < v.lc := by have := h.looks.1; have := (List.getElem?_eq_some_iff.1 hx).1; omega
  have hbk : bkN v.la v.lc 0 = gd := bk_some e hc
  have hne : gd ≠ g := fun e2 => h.lg hc (hbk.trans e2)
  have hN : EvNX base X g v gd := .inr (.inr (.inr ⟨hc, hbk.symm⟩))
  refine ⟨gd, o, e, hb, hne, ⟨?_, h.hg, h.plan.set (p := ⟨gd, o + k * 4 + i, none⟩) hN _, h.socks.set (p := ⟨gd, o + k * 4 + i, none⟩) hN _, h.marks.set (p := ⟨gd, o + k * 4 + i, none⟩) hN _, ?_, hrow, h.dg, h.lg, h.dl, h.xg, h.xd, h.xl, fun b hx => by have := h.xlt b hx; simpa using this⟩, hcell, hfz⟩
  · have hbox := (Below.heap_setCell W ⟨gd, o + k * 4 + i, none⟩ u g hne.symm).trans h.box
    simp only [List.length_set]
    exact hbox
  · exact h.dials.but (But.set (N := fun b => b = gd) (p := ⟨gd, o + k * 4 + i, none⟩) rfl u) (fun ad e2 hc2 hn => h.dl hc2 hc (by rw [hbk, bk_some e2 hc2]; exact hn))
/-- Behind an append to the dials: the row that came of it stands in the box, once it is stored. -/
theorem EvX.moreDials (h : EvX base X W g v A) (hb : base ≤ W.heap.size) {a : Option Addr} {c : Nat} {D : List Di} (hD : DK.Loose W' base a c D) (hg : ∃ row, W.grownBy W' row ∧ ∀ j, row = some j → base ≤ j ∧ 0 < v.ic ∧ ∃ ad, v.ia = some ad ∧ ad.block = j) (hw : (∃ g', a = some ⟨g', 0, none⟩ ∧ W.heap.size ≤ g') ∨ (a = v.ia ∧ 0 < v.ic)) :
    EvX base X (W'.setCell ⟨g, 6, none⟩ (.slice a D.length c)) g { v with ia := a, ic := c } { A with dials := D } ∧ W'.heap[g]? = W.heap[g]? := by
  obtain ⟨row, hgr, hrow⟩ := hg
  have hblk : ∀ j, row = some j → 0 < v.ic ∧ j = bkN v.ia v.ic 0 := fun j e => by
    obtain ⟨_, hc, ad, e1, e2⟩ := hrow j e
    exact ⟨hc, by rw [bk_some e1 hc]; exact e2.symm⟩
  have hbut : But (fun b => 0 < v.ic ∧ b = bkN v.ia v.ic 0) W W' := But.grown hgr hblk
  have hgl := lt_of_block h.box
  have hbox : W'.heap[g]? = W.heap[g]? := hbut.block g hgl (fun ⟨hc, e⟩ => h.dg hc e.symm)
  have hev := h.evlt hb
  have hnew : ∀ b, EvNX base X g { v with ia := a, ic := c } b → EvNX base X g v b ∨ W.heap.size ≤ b := fun b hb' => by
    rcases hb' with h1 | h1 | ⟨hc, h1⟩ | ⟨hc, h1⟩
    · exact .inl (.inl h1)
    · exact .inl (.inr (.inl h1))
    · dsimp only at hc h1
      rcases hw with ⟨g', e, hg'⟩ | ⟨e, hc0⟩
      · rw [bk_some e hc] at h1
        exact .inr (by dsimp only at h1; omega)
      · have hc0' := hc0
        obtain ⟨g2, o2, e2, _⟩ := h.dials.2.2.2 hc0
        rw [bk_some (e.trans e2) hc] at h1
        exact .inl (.inr (.inr (.inl ⟨hc0, by rw [bk_some e2 hc0]; exact h1⟩)))
    · exact .inl (.inr (.inr (.inr ⟨hc, h1⟩)))
  have hb2 : But (EvNX base X g v) W W' := hbut.less (fun b hb' => .inl (.inr (.inr (.inl hb'))))
  have hbN : But (fun b => EvNX base X g v b ∨ W.heap.size ≤ b) W W' := hbut.less (fun b hb' => .inl (.inl (.inr (.inr (.inl hb')))))
  have hpl : PlanN (EvNX base X g { v with ia := a, ic := c }) W' v.p A.plan :=
    fun w2 h2 => h.plan.more (M := fun b => EvNX base X g v b ∨ W.heap.size ≤ b) (fun b hb' => hb') w2 (hbN.trans (h2.less (fun b hb' => .inl (hnew b hb'))))
  have hsk : SK.OffC (EvNX base X g { v with ia := a, ic := c }) W' v.sa v.sc A.socks := ((h.socks.more (M := fun b => EvNX base X g v b ∨ W.heap.size ≤ b) (fun b hb' => hb')).but hbN).less hnew
  have hmk : NK.OffC (EvNX base X g { v with ia := a, ic := c }) W' v.ma v.mc A.marks := ((h.marks.more (M := fun b => EvNX base X g v b ∨ W.heap.size ≤ b) (fun b hb' => hb')).but hbN).less hnew
  have hdg : 0 < c → bkN a c 0 ≠ g := fun hc => by
    rcases hw with ⟨g', e, hg'⟩ | ⟨e, hc0⟩
    · rw [bk_some e hc]; dsimp only; omega
    · obtain ⟨g2, o2, e2, _⟩ := h.dials.2.2.2 hc0
      have := h.dg hc0
      rw [bk_some e2 hc0] at this
      rw [bk_some (e.trans e2) hc]
      exact this
  have hdl : 0 < c → 0 < v.lc → bkN a c 0 ≠ bkN v.la v.lc 0 := fun hc hc2 => by
    rcases hw with ⟨g', e, hg'⟩ | ⟨e, hc0⟩
    · have := hev (bkN v.la v.lc 0) (.inr (.inr (.inr ⟨hc2, rfl⟩)))
      rw [bk_some e hc]; dsimp only; omega
    · obtain ⟨g2, o2, e2, _⟩ := h.dials.2.2.2 hc0
      have := h.dl hc0 hc2
      rw [bk_some e2 hc0] at this
      rw [bk_some (e.trans e2) hc]
      exact this
  have hxd : 0 < c → ¬ X (bkN a c 0) := fun hc hx => by
    rcases hw with ⟨g', e, hg'⟩ | ⟨e, hc0⟩
    · have := h.xlt _ hx
      rw [bk_some e hc] at this; dsimp only at this; omega
    · obtain ⟨g2, o2, e2, _⟩ := h.dials.2.2.2 hc0
      have := h.xd hc0
      rw [bk_some e2 hc0] at this
      rw [bk_some (e.trans e2) hc] at hx
      exact this hx
  have hlk : LK.Loose W' base v.la v.lc A.looks := h.looks.but hbut (fun ad e hc hn => h.dl hn.1 hc (by rw [bk_some e hc]; exact hn.2.symm))
  refine ⟨⟨box_set (hbox.trans h.box) 6 _ rfl, h.hg, PlanN.set hpl (.inr (.inl rfl)) _, hsk.set (.inr (.inl rfl)) _, hmk.set (.inr (.inl rfl)) _, ?_, ?_, hdg, h.lg, hdl, h.xg, hxd, h.xl, fun b hx => by have := h.xlt b hx; have := hbut.size; simp; omega⟩, hbox⟩
  · exact hD.but (But.set (N := fun b => b = g) (p := ⟨g, 6, none⟩) rfl _) (fun ad e hc hn => hdg hc ((bk_some e hc).trans hn))
  · exact hlk.but (But.set (N := fun b => b = g) (p := ⟨g, 6, none⟩) rfl _) (fun ad e hc hn => h.lg hc ((bk_some e hc).trans hn))
/-- The same of the lookups. -/
theorem EvX.moreLooks (h : EvX base X W g v A) (hb : base ≤ W.heap.size) {a : Option Addr} {c : Nat} {D : List Lo} (hD : LK.Loose W' base a c D) (hg : ∃ row, W.grownBy W' row ∧ ∀ j, row = some j → base ≤ j ∧ 0 < v.lc ∧ ∃ ad, v.la = some ad ∧ ad.block = j) (hw : (∃ g', a = some ⟨g', 0, none⟩ ∧ W.heap.size ≤ g') ∨ (a = v.la ∧ 0 < v.lc)) :
    EvX base X (W'.setCell ⟨g, 7, none⟩ (.slice a D.length c)) g { v with la := a, lc := c } { A with looks := D } ∧ W'.heap[g]? = W.heap[g]? := by
  obtain ⟨row, hgr, hrow⟩ := hg
  have hblk : ∀ j, row = some j → 0 < v.lc ∧ j = bkN v.la v.lc 0 := fun j e => by
    obtain ⟨_, hc, ad, e1, e2⟩ := hrow j e
    exact ⟨hc, by rw [bk_some e1 hc]; exact e2.symm⟩
  have hbut : But (fun b => 0 < v.lc ∧ b = bkN v.la v.lc 0) W W' := But.grown hgr hblk
  have hgl := lt_of_block h.box
  have hbox : W'.heap[g]? = W.heap[g]? := hbut.block g hgl (fun ⟨hc, e⟩ => h.lg hc e.symm)
  have hev := h.evlt hb
  have hnew : ∀ b, EvNX base X g { v with la := a, lc := c } b → EvNX base X g v b ∨ W.heap.size ≤ b := fun b hb' => by
    rcases hb' with h1 | h1 | ⟨hc, h1⟩ | ⟨hc, h1⟩
    · exact .inl (.inl h1)
    · exact .inl (.inr (.inl h1))
    · exact .inl (.inr (.inr (.inl ⟨hc, h1⟩)))
    · dsimp only at hc h1
      rcases hw with ⟨g', e, hg'⟩ | ⟨e, hc0⟩
      · rw [bk_some e hc] at h1
        exact .inr (by dsimp only at h1; omega)
      · obtain ⟨g2, o2, e2, _⟩ := h.looks.2.2.2 hc0
        rw [bk_some (e.trans e2) hc] at h1
        exact .inl (.inr (.inr (.inr ⟨hc0, by rw [bk_some e2 hc0]; exact h1⟩)))
  have hbN : But (fun b => EvNX base X g v b ∨ W.heap.size ≤ b) W W' := hbut.less (fun b hb' => .inl (.inl (.inr (.inr (.inr hb')))))
  have hpl : PlanN (EvNX base X g { v with la := a, lc := c }) W' v.p A.plan :=
    fun w2 h2 => h.plan.more (M := fun b => EvNX base X g v b ∨ W.heap.size ≤ b) (fun b hb' => hb') w2 (hbN.trans (h2.less (fun b hb' => .inl (hnew b hb'))))
  have hsk : SK.OffC (EvNX base X g { v with la := a, lc := c }) W' v.sa v.sc A.socks := ((h.socks.more (M := fun b => EvNX base X g v b ∨ W.heap.size ≤ b) (fun b hb' => hb')).but hbN).less hnew
  have hmk : NK.OffC (EvNX base X g { v with la := a, lc := c }) W' v.ma v.mc A.marks := ((h.marks.more (M := fun b => EvNX base X g v b ∨ W.heap.size ≤ b) (fun b hb' => hb')).but hbN).less hnew
  have hlg : 0 < c → bkN a c 0 ≠ g := fun hc => by
    rcases hw with ⟨g', e, hg'⟩ | ⟨e, hc0⟩
    · rw [bk_some e hc]; dsimp only; omega
    · obtain ⟨g2, o2, e2, _⟩ := h.looks.2.2.2 hc0
      have := h.lg hc0
      rw [bk_some e2 hc0] at this
      rw [bk_some (e.trans e2) hc]
      exact this
  have hdl : 0 < v.ic → 0 < c → bkN v.ia v.ic 0 ≠ bkN a c 0 := fun hc2 hc => by
    rcases hw with ⟨g', e, hg'⟩ | ⟨e, hc0⟩
    · have := hev (bkN v.ia v.ic 0) (.inr (.inr (.inl ⟨hc2, rfl⟩)))
      rw [bk_some e hc]; dsimp only; omega
    · obtain ⟨g2, o2, e2, _⟩ := h.looks.2.2.2 hc0
      have := h.dl hc2 hc0
      rw [bk_some e2 hc0] at this
      rw [bk_some (e.trans e2) hc]
      exact this
  have hxl : 0 < c → ¬ X (bkN a c 0) := fun hc hx => by
    rcases hw with ⟨g', e, hg'⟩ | ⟨e, hc0⟩
    · have := h.xlt _ hx
      rw [bk_some e hc] at this; dsimp only at this; omega
    · obtain ⟨g2, o2, e2, _⟩ := h.looks.2.2.2 hc0
      have := h.xl hc0
      rw [bk_some e2 hc0] at this
      rw [bk_some (e.trans e2) hc] at hx
      exact this hx
  have hdk : DK.Loose W' base v.ia v.ic A.dials := h.dials.but hbut (fun ad e hc hn => h.dl hc hn.1 (by rw [bk_some e hc]; exact hn.2))
  refine ⟨⟨box_set (hbox.trans h.box) 7 _ rfl, h.hg, PlanN.set hpl (.inr (.inl rfl)) _, hsk.set (.inr (.inl rfl)) _, hmk.set (.inr (.inl rfl)) _, ?_, ?_, h.dg, hlg, hdl, h.xg, h.xd, hxl, fun b hx => by have := h.xlt b hx; have := hbut.size; simp; omega⟩, hbox⟩
  · exact hdk.but (But.set (N := fun b => b = g) (p := ⟨g, 7, none⟩) rfl _) (fun ad e hc hn => h.dg hc ((bk_some e hc).trans hn))
  · exact hD.but (But.set (N := fun b => b = g) (p := ⟨g, 7, none⟩) rfl _) (fun ad e hc hn => hlg hc ((bk_some e hc).trans hn))
/-- What is answered: the world's cells in a cell of the call's own. -/
theorem EvX.ret (h : EvX base X W g v A) {r : Nat} (hr : r < base) {N : Nat → Prop} (hN : ∀ b, N b → b < base) (x0 x1 x2 x3 x4 x5 x6 x7 x8 x9 : Value) : FlatN N (set10 W r x0 x1 x2 x3 x4 x5 x6 x7 x8 x9) v A :=
  (set10_flat (h.flat (N := fun b => N b ∨ b = r) (fun b hb => by rcases hb with hb | hb; exact hN b hb; omega)) (b := r) (.inr rfl) x0 x1 x2 x3 x4 x5 x6 x7 x8 x9).more (fun b hb => .inl (.inl hb))
end
namespace Kind
/-- At a step of a region that draws its order: append to a row of one's own, wherever it begins. -/
theorem step_append_loose {α : Type} {Pr : Program} (K : Kind Pr α) {w : World} {ops : Array Oper} {o : Oper} {act : Act} {K' : Act → World → Prop} {Q : Exit → Act → World → Prop} {E : Prop} (hgd : o.guard = none) (s x : Operand)
    (ho : o.op = .call { callee := .builtin .append, args := #[s, x], argTypes := #[K.S, K.S] })
    (base : Nat) (a : Option Addr) (n c : Nat) (hs : act.eval s = .slice a n c) (l : List α) (hn : n = l.length) (hD : K.Loose w base a c l) (b : Option Addr) (m d : Nat) (hx : act.eval x = .slice b m d) (k : List α) (hm : m = k.length) (hk : 0 < k.length) (hR : K.RowC w b d k) (hlen : l.length + k.length ≤ 4000000) (hbase : base ≤ w.heap.size)
    (L : List α) (hL : L = l ++ k)
    (h : ∀ a' c' w', K.Loose w' base a' c' L → (∃ row, w.grownBy w' row ∧ ∀ j, row = some j → base ≤ j ∧ 0 < c ∧ ∃ ad, a = some ad ∧ ad.block = j) → ((∃ g, a' = some ⟨g, 0, none⟩ ∧ w.heap.size ≤ g) ∨ (a' = a ∧ 0 < c)) → K' (act.put o.dst (.slice a' L.length c')) w') : if Region.wanted o (yielded ops act.tmps) = true then Oper.wp Pr o act w K' Q else E := by
  have hw : Region.wanted o (yielded ops act.tmps) = true := by simp [Region.wanted, hgd]
  rw [if_pos hw]
  obtain ⟨a', c', w', hrun, r1, r2, r3⟩ := run_append_loose w o.type base a c n l hn hD b d m k hm hk hR hlen hbase
  rw [← hL] at r1 hrun
  unfold Oper.wp
  simp [execOp, ho, resolve, invoke, builtin, hs, hx, hrun, Result.andThen]
  exact h a' c' w' r1 r2 r3
end Kind
end Go.Proofs.YtciohjgcndgiaaaGreatDoor

