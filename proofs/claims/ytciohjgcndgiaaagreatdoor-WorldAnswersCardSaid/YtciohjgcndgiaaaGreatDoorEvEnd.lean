/- Dials that end, by the landed world. -/
import Derived.Test.YtciohjgcndgiaaaGreatDoorEvt
set_option linter.unusedSimpArgs false
set_option linter.unusedVariables false
namespace Go.Proofs.YtciohjgcndgiaaaGreatDoor
open Go.RowKit Go.Proofs.YtciohjgcndgiaaaGreatDoor.Kind

def EndMSpec : Prop := ∀ (base g : Nat) (u : Wv) (A : Wo) (k : Nat) (x : Di) (W : World), A.socks.length ≤ 300 → A.marks.length ≤ 600 → A.dials[k]? = some x → base ≤ W.heap.size → EvIn base W g u A → ∀ (B : Wo) (M : Lt),
    B = (if x.fate = 0 then { A with dials := A.dials.set k { x with over := true }, socks := A.socks ++ [skNew x.ad x.by_ A.clock], marks := A.marks ++ [⟨false, A.socks.length, A.clock⟩] } else { A with dials := A.dials.set k { x with over := true } }) →
    M = (if x.fate = 0 then ⟨11, 0, 0, A.socks.length, { data := #[] }, 0⟩ else ⟨11, 0, 0, 0, { data := #[] }, 160⟩) →
    Calls Tryz.prog 45 #[.pointer (some ⟨g, 0, none⟩), .int .i64 k] W fun e w' => ∃ u2, e = .returned M.v ∧ EvIn base w' g u2 B ∧ Below base W w'
theorem drew_at {w : World} {b : Nat} {o : Obj} (h : w.heap[b]? = some o) : w.drew.heap[b]? = some o := h
theorem flat_drew {N : Nat → Prop} {w : World} {v : Wv} {A : Wo} (h : FlatN N w v A) : FlatN N w.drew v A := h.below (Below.refl _ _).drew
theorem res_cell_cell_tmp {fn : Func} {p q u : Tmp} {ty tz : TypeId} (h : fn.results = #[.cell p ty, .cell q tz, .tmp u]) (tmps : Array Value) (Pr : Program) (w : World) (b c : Nat) (hp : tmps.getD p undef = .pointer (some ⟨b, 0, none⟩)) (hq : tmps.getD q undef = .pointer (some ⟨c, 0, none⟩)) (v x : Value) (hl : (loadVar ty ⟨b, 0, none⟩).run Pr w = .ok v w) (hm : (loadVar tz ⟨c, 0, none⟩).run Pr w = .ok x w) :
    (results fn tmps).run Pr w = .ok (.tuple #[v, x, tmps.getD u undef]) w := by
  simp only [results, h]
  simp [Sem.run_bind, Result.andThen]
  simp at hp hq
  rw [hp, hq, show (asAddr (.pointer (some ⟨b, 0, none⟩))).run Pr w = .ok ⟨b, 0, none⟩ w from rfl]
  simp only [Result.andThen_ok, hl]
  rw [show (asAddr (.pointer (some ⟨c, 0, none⟩))).run Pr w = .ok ⟨c, 0, none⟩ w from rfl]
  simp only [Result.andThen_ok, hm]
theorem end_as {A : Wo} {y : Int} {d : Di} (hof : dialOf A y = some d) (hrd : readyP A y = true) (hby : d.by_ = y) :
    endP A y = (if d.fate = 0 then { A with dials := A.dials.set (dialIx A y) { d with over := true }, socks := A.socks ++ [skNew d.ad d.by_ A.clock], marks := A.marks ++ [⟨false, A.socks.length, A.clock⟩] } else { A with dials := A.dials.set (dialIx A y) { d with over := true } }) ∧
    endM A y = (if d.fate = 0 then ⟨11, 0, 0, A.socks.length, { data := #[] }, 0⟩ else ⟨11, 0, 0, 0, { data := #[] }, 160⟩) := by
  have hr : readyD d = true := by unfold readyP at hrd; rw [hof] at hrd; exact hrd
  have hnr : ¬ readyP A y = false := by rw [hrd]; simp
  constructor
  · unfold endP
    rw [hof]
    dsimp only
    rw [if_neg (by rw [hr]; simp)]
    by_cases hf : d.fate = 0 <;> simp [overP, hof, hf, hby]
  · unfold endM
    rw [if_neg hnr]
    have hw : wellP A y = decide (d.fate = 0) := by unfold wellP; rw [hof]
    rw [hw]
    by_cases hf : d.fate = 0
    · rw [if_pos (by simp [hf]), if_pos hf]
    · rw [if_neg (by simp [hf]), if_neg hf]
set_option maxHeartbeats 8000000 in
set_option maxRecDepth 1000000 in
theorem end_walk (H : EndMSpec) : EndSpec := by
  intro N A v y w B m r hN hRm hA hB hm hr
  obtain ⟨rd, hrd⟩ : ∃ X, X = readyP A y := ⟨_, rfl⟩
  have HRd := Lib.hid (fun v W (h : DK.RowC W v.ia v.ic A.dials) => ready_any A v y rd hrd W h)
  obtain ⟨ix, hix⟩ : ∃ X, X = idxI (fun d : Di => decide (d.by_ = y)) A.dials := ⟨_, rfl⟩
  have HD := Lib.hid (fun v W (h : DK.RowC W v.ia v.ic A.dials) => hix ▸ dialOf_any A v y W h)
  have hS := hRm.socks
  have hMk := hRm.marks
  have HH := Lib.hid H
  clear H
  simp only [Wv.val, Wv.cells] at HD HRd
  have HA := Lib.hid hA.world
  have HNN := Lib.hid hN
  have HBg := Lib.hid (fun W (h : WorldC W v A) => begin_any A v W hRm h)
  have HRm := Lib.hid hRm
  clear hA hRm hN
  simp only [Wv.val, Wv.cells, Ad.v] at HBg ⊢
  have hb := below3 w (.cells #[.slice v.p.za A.plan.zones.length v.p.zc, .slice v.p.fa A.plan.fates.length v.p.fc, .int .i64 A.plan.ticks, .slice v.p.da A.plan.drops.length v.p.dc, .int .i64 A.clock, .slice v.sa A.socks.length v.sc, .slice v.ia A.dials.length v.ic, .slice v.la A.looks.length v.lc, .int .i64 A.dropped, .slice v.ma A.marks.length v.mc] 32) (.cells #[.slice none 0 0, .slice none 0 0, .int .i64 0, .slice none 0 0, .int .i64 0, .slice none 0 0, .slice none 0 0, .slice none 0 0, .int .i64 0, .slice none 0 0] 32) (.cells #[.int .i8 0, .int .i64 0, .int .i64 0, .int .i64 0, .string { data := #[] }, .int .i64 0] 42)
  have hL := laid3 w (.cells #[.slice v.p.za A.plan.zones.length v.p.zc, .slice v.p.fa A.plan.fates.length v.p.fc, .int .i64 A.plan.ticks, .slice v.p.da A.plan.drops.length v.p.dc, .int .i64 A.clock, .slice v.sa A.socks.length v.sc, .slice v.ia A.dials.length v.ic, .slice v.la A.looks.length v.lc, .int .i64 A.dropped, .slice v.ma A.marks.length v.mc] 32) (.cells #[.slice none 0 0, .slice none 0 0, .int .i64 0, .slice none 0 0, .int .i64 0, .slice none 0 0, .slice none 0 0, .slice none 0 0, .int .i64 0, .slice none 0 0] 32) (.cells #[.int .i8 0, .int .i64 0, .int .i64 0, .int .i64 0, .string { data := #[] }, .int .i64 0] 42)
  go_enter Tryz.func19, Tryz.ntmps19
  go_upto_region 1 with fail
  obtain ⟨w1, hw1⟩ : ∃ X, X = (((w.alloc (.cells #[.slice v.p.za A.plan.zones.length v.p.zc, .slice v.p.fa A.plan.fates.length v.p.fc, .int .i64 A.plan.ticks, .slice v.p.da A.plan.drops.length v.p.dc, .int .i64 A.clock, .slice v.sa A.socks.length v.sc, .slice v.ia A.dials.length v.ic, .slice v.la A.looks.length v.lc, .int .i64 A.dropped, .slice v.ma A.marks.length v.mc] 32)).alloc (.cells #[.slice none 0 0, .slice none 0 0, .int .i64 0, .slice none 0 0, .int .i64 0, .slice none 0 0, .slice none 0 0, .slice none 0 0, .int .i64 0, .slice none 0 0] 32)).alloc (.cells #[.int .i8 0, .int .i64 0, .int .i64 0, .int .i64 0, .string { data := #[] }, .int .i64 0] 42)) := ⟨_, rfl⟩
  have hsz1 : w1.heap.size = w.heap.size + 3 := by rw [hw1]; simp
  rw [← hw1] at hb hL ⊢
  clear hw1
  generalize hG2 : w.heap.size + 2 = r2 at hL ⊢
  generalize hG1 : w.heap.size + 1 = r1 at hL ⊢
  have HB := Lib.hid hb
  have HX := Lib.hid (HBg.out w1 (HA.out.below hb))
  have Hres := Lib.hid (hL.2.1)
  have Hltr := Lib.hid (hL.2.2)
  obtain ⟨⟨x0, x1, x2, x3, x4, x5, x6, x7, x8, x9⟩, _⟩ := boxes10 (hL.1)
  have hld := loadW2 (v := v) (A := A) (hL.1)
  clear hL hb HBg
  go_wp2_with fail
  with_reducible refine HX.out.mono ?_
  rintro e w2 ⟨u, g, rfl, hE, hb2⟩
  clear x0 x1 x2 x3 x4 x5 x6 x7 x8 x9 HX hld
  obtain ⟨l1, hl1⟩ : ∃ X, X = w1.heap.size := ⟨_, rfl⟩
  rw [← hl1] at hE hsz1
  have HE := Lib.hid hE
  have hl1w : l1 ≤ w2.heap.size := by have := hb2.size; omega
  replace Hres := Lib.hid ((hb2.block _ (lt_of_block Hres.out)).trans Hres.out)
  replace Hltr := Lib.hid ((hb2.block _ (lt_of_block Hltr.out)).trans Hltr.out)
  have hr1 : r1 < l1 := by omega
  have hlr1 : w.heap.size ≤ r1 := by omega
  have hr2 : r2 < l1 := by omega
  have hlr2 : w.heap.size ≤ r2 := by omega
  replace HB := Lib.hid (HB.out.trans (hb2.mono HB.out.size))
  clear hE hb2 hl1
  have hr12 : r2 ≠ r1 := by omega
  have hr21 : r1 ≠ r2 := by omega
  have HR12 := Lib.hid (And.intro hr12 hr21)
  clear hr12 hr21
  clear hG1
  clear hG2
  obtain ⟨⟨x0, x1, x2, x3, x4, x5, x6, x7, x8, x9⟩, f0, f1, f2, f3, f4, f5, f6, f7, f8, f9⟩ := boxes10 HE.out.box
  have HX := Lib.hid (HRd.out u w2 HE.out.dials.row)
  have hld := loadS (v := u) (A := A) HE.out.box
  go_wp2_with fail
  with_reducible refine HX.out.mono ?_
  rintro e w3 ⟨rfl, hb⟩
  clear x0 x1 x2 x3 x4 x5 x6 x7 x8 x9 f0 f1 f2 f3 f4 f5 f6 f7 f8 f9
  clear hld HX HRd
  replace HE := Lib.hid (HE.out.below hb)
  replace Hres := Lib.hid ((hb.block _ (lt_of_block Hres.out)).trans Hres.out)
  replace Hltr := Lib.hid ((hb.block _ (lt_of_block Hltr.out)).trans Hltr.out)
  replace HB := Lib.hid (HB.out.trans (hb.mono HB.out.size))
  replace hl1w : l1 ≤ w3.heap.size := Nat.le_trans hl1w hb.size
  clear hb
  cases rd with
  | false =>
    obtain rfl : B = A := by rw [hB]; exact end_not hrd.symm
    obtain rfl : m = Lt.zero := by rw [hm]; unfold endM; rw [if_pos hrd.symm]
    obtain rfl : r = 100 := by rw [hr]; unfold endE; rw [← hrd]; rfl
    clear hB hm hr hix hrd HD
    obtain ⟨⟨y0, y1, y2, y3, y4, y5, y6, y7, y8, y9⟩, g0, g1, g2, g3, g4, g5, g6, g7, g8, g9⟩ := boxes10 Hres.out
    obtain ⟨⟨t0, t1, t2, t3, t4, t5⟩, s0, s1, s2, s3, s4, s5⟩ := boxes6 Hltr.out
    have hld := loadW2 (v := u) (A := B) HE.out.box
    obtain ⟨hr12, hr21⟩ := HR12.out
    obtain ⟨⟨x0, x1, x2, x3, x4, x5, x6, x7, x8, x9⟩, f0, f1, f2, f3, f4, f5, f6, f7, f8, f9⟩ := boxes10 HE.out.box
    clear f0 f1 f2 f3 f4 f5 f6 f7 f8 f9
    go_wp2_with fail
    have hz2 := set10_at Hres.out (.slice u.p.za B.plan.zones.length u.p.zc) (.slice u.p.fa B.plan.fates.length u.p.fc) (.int .i64 B.plan.ticks) (.slice u.p.da B.plan.drops.length u.p.dc) (.int .i64 B.clock) (.slice u.sa B.socks.length u.sc) (.slice u.ia B.dials.length u.ic) (.slice u.la B.looks.length u.lc) (.int .i64 B.dropped) (.slice u.ma B.marks.length u.mc)
    have hb2 := set10_below HB.out hlr1 (.slice u.p.za B.plan.zones.length u.p.zc) (.slice u.p.fa B.plan.fates.length u.p.fc) (.int .i64 B.plan.ticks) (.slice u.p.da B.plan.drops.length u.p.dc) (.int .i64 B.clock) (.slice u.sa B.socks.length u.sc) (.slice u.ia B.dials.length u.ic) (.slice u.la B.looks.length u.lc) (.int .i64 B.dropped) (.slice u.ma B.marks.length u.mc)
    have hm2 := (set10_other w3 r1 r2 (.slice u.p.za B.plan.zones.length u.p.zc) (.slice u.p.fa B.plan.fates.length u.p.fc) (.int .i64 B.plan.ticks) (.slice u.p.da B.plan.drops.length u.p.dc) (.int .i64 B.clock) (.slice u.sa B.socks.length u.sc) (.slice u.ia B.dials.length u.ic) (.slice u.la B.looks.length u.lc) (.int .i64 B.dropped) (.slice u.ma B.marks.length u.mc) hr12).trans Hltr.out
    have hfl := HE.out.ret (r := r1) hr1 (N := fun b => N b ∨ b = r2) (fun b hb => by rcases hb with hb | hb; (have := HNN.out b hb; omega); omega) (.slice u.p.za B.plan.zones.length u.p.zc) (.slice u.p.fa B.plan.fates.length u.p.fc) (.int .i64 B.plan.ticks) (.slice u.p.da B.plan.drops.length u.p.dc) (.int .i64 B.clock) (.slice u.sa B.socks.length u.sc) (.slice u.ia B.dials.length u.ic) (.slice u.la B.looks.length u.lc) (.int .i64 B.dropped) (.slice u.ma B.marks.length u.mc)
    have hm3 : ((set10 w3 r1 (.slice u.p.za B.plan.zones.length u.p.zc) (.slice u.p.fa B.plan.fates.length u.p.fc) (.int .i64 B.plan.ticks) (.slice u.p.da B.plan.drops.length u.p.dc) (.int .i64 B.clock) (.slice u.sa B.socks.length u.sc) (.slice u.ia B.dials.length u.ic) (.slice u.la B.looks.length u.lc) (.int .i64 B.dropped) (.slice u.ma B.marks.length u.mc)).setCell ⟨r2, 0, none⟩ (.int .i8 0)).heap[r2]? = some (.cells #[.int .i8 0, .int .i64 0, .int .i64 0, .int .i64 0, .string { data := #[] }, .int .i64 0] 42 (0, 0)) := set_at hm2 0 _
    have hm4 : (((set10 w3 r1 (.slice u.p.za B.plan.zones.length u.p.zc) (.slice u.p.fa B.plan.fates.length u.p.fc) (.int .i64 B.plan.ticks) (.slice u.p.da B.plan.drops.length u.p.dc) (.int .i64 B.clock) (.slice u.sa B.socks.length u.sc) (.slice u.ia B.dials.length u.ic) (.slice u.la B.looks.length u.lc) (.int .i64 B.dropped) (.slice u.ma B.marks.length u.mc)).setCell ⟨r2, 0, none⟩ (.int .i8 0)).setCell ⟨r2, 1, none⟩ (.int .i64 0)).heap[r2]? = some (.cells #[.int .i8 0, .int .i64 0, .int .i64 0, .int .i64 0, .string { data := #[] }, .int .i64 0] 42 (0, 0)) := set_at hm3 1 _
    have hm5 : ((((set10 w3 r1 (.slice u.p.za B.plan.zones.length u.p.zc) (.slice u.p.fa B.plan.fates.length u.p.fc) (.int .i64 B.plan.ticks) (.slice u.p.da B.plan.drops.length u.p.dc) (.int .i64 B.clock) (.slice u.sa B.socks.length u.sc) (.slice u.ia B.dials.length u.ic) (.slice u.la B.looks.length u.lc) (.int .i64 B.dropped) (.slice u.ma B.marks.length u.mc)).setCell ⟨r2, 0, none⟩ (.int .i8 0)).setCell ⟨r2, 1, none⟩ (.int .i64 0)).setCell ⟨r2, 2, none⟩ (.int .i64 0)).heap[r2]? = some (.cells #[.int .i8 0, .int .i64 0, .int .i64 0, .int .i64 0, .string { data := #[] }, .int .i64 0] 42 (0, 0)) := set_at hm4 2 _
    have hm6 : (((((set10 w3 r1 (.slice u.p.za B.plan.zones.length u.p.zc) (.slice u.p.fa B.plan.fates.length u.p.fc) (.int .i64 B.plan.ticks) (.slice u.p.da B.plan.drops.length u.p.dc) (.int .i64 B.clock) (.slice u.sa B.socks.length u.sc) (.slice u.ia B.dials.length u.ic) (.slice u.la B.looks.length u.lc) (.int .i64 B.dropped) (.slice u.ma B.marks.length u.mc)).setCell ⟨r2, 0, none⟩ (.int .i8 0)).setCell ⟨r2, 1, none⟩ (.int .i64 0)).setCell ⟨r2, 2, none⟩ (.int .i64 0)).setCell ⟨r2, 3, none⟩ (.int .i64 0)).heap[r2]? = some (.cells #[.int .i8 0, .int .i64 0, .int .i64 0, .int .i64 0, .string { data := #[] }, .int .i64 0] 42 (0, 0)) := set_at hm5 3 _
    have hm7 : ((((((set10 w3 r1 (.slice u.p.za B.plan.zones.length u.p.zc) (.slice u.p.fa B.plan.fates.length u.p.fc) (.int .i64 B.plan.ticks) (.slice u.p.da B.plan.drops.length u.p.dc) (.int .i64 B.clock) (.slice u.sa B.socks.length u.sc) (.slice u.ia B.dials.length u.ic) (.slice u.la B.looks.length u.lc) (.int .i64 B.dropped) (.slice u.ma B.marks.length u.mc)).setCell ⟨r2, 0, none⟩ (.int .i8 0)).setCell ⟨r2, 1, none⟩ (.int .i64 0)).setCell ⟨r2, 2, none⟩ (.int .i64 0)).setCell ⟨r2, 3, none⟩ (.int .i64 0)).setCell ⟨r2, 4, none⟩ (.string { data := #[] })).heap[r2]? = some (.cells #[.int .i8 0, .int .i64 0, .int .i64 0, .int .i64 0, .string { data := #[] }, .int .i64 0] 42 (0, 0)) := set_at hm6 4 _
    have hm8 : (((((((set10 w3 r1 (.slice u.p.za B.plan.zones.length u.p.zc) (.slice u.p.fa B.plan.fates.length u.p.fc) (.int .i64 B.plan.ticks) (.slice u.p.da B.plan.drops.length u.p.dc) (.int .i64 B.clock) (.slice u.sa B.socks.length u.sc) (.slice u.ia B.dials.length u.ic) (.slice u.la B.looks.length u.lc) (.int .i64 B.dropped) (.slice u.ma B.marks.length u.mc)).setCell ⟨r2, 0, none⟩ (.int .i8 0)).setCell ⟨r2, 1, none⟩ (.int .i64 0)).setCell ⟨r2, 2, none⟩ (.int .i64 0)).setCell ⟨r2, 3, none⟩ (.int .i64 0)).setCell ⟨r2, 4, none⟩ (.string { data := #[] })).setCell ⟨r2, 5, none⟩ (.int .i64 0)).heap[r2]? = some (.cells #[.int .i8 0, .int .i64 0, .int .i64 0, .int .i64 0, .string { data := #[] }, .int .i64 0] 42 (0, 0)) := set_at hm7 5 _
    have hzz := ((Below.heap_setCell _ ⟨r2, 5, none⟩ (.int .i64 0) r1 hr21).trans ((Below.heap_setCell _ ⟨r2, 4, none⟩ (.string { data := #[] }) r1 hr21).trans ((Below.heap_setCell _ ⟨r2, 3, none⟩ (.int .i64 0) r1 hr21).trans ((Below.heap_setCell _ ⟨r2, 2, none⟩ (.int .i64 0) r1 hr21).trans ((Below.heap_setCell _ ⟨r2, 1, none⟩ (.int .i64 0) r1 hr21).trans ((Below.heap_setCell _ ⟨r2, 0, none⟩ (.int .i8 0) r1 hr21).trans hz2))))))
    have hbb := ((((((hb2.setCell (p := ⟨r2, 0, none⟩) hlr2 (.int .i8 0)).setCell (p := ⟨r2, 1, none⟩) hlr2 (.int .i64 0)).setCell (p := ⟨r2, 2, none⟩) hlr2 (.int .i64 0)).setCell (p := ⟨r2, 3, none⟩) hlr2 (.int .i64 0)).setCell (p := ⟨r2, 4, none⟩) hlr2 (.string { data := #[] })).setCell (p := ⟨r2, 5, none⟩) hlr2 (.int .i64 0))
    have hff := ((((((hfl.set (p := ⟨r2, 0, none⟩) (.inr rfl) (.int .i8 0)).set (p := ⟨r2, 1, none⟩) (.inr rfl) (.int .i64 0)).set (p := ⟨r2, 2, none⟩) (.inr rfl) (.int .i64 0)).set (p := ⟨r2, 3, none⟩) (.inr rfl) (.int .i64 0)).set (p := ⟨r2, 4, none⟩) (.inr rfl) (.string { data := #[] })).set (p := ⟨r2, 5, none⟩) (.inr rfl) (.int .i64 0))
    refine bodyPost_ret (res_cell_cell_tmp rfl _ _ _ r1 r2 rfl rfl _ _ (loadW2 (v := u) (A := B) hzz) (load_Lt (x := Lt.zero) hm8)) rfl ?_
    exact ⟨u, by first | rfl | exact HFin.out, hff.more (fun b hb => .inl (.inl hb)), hbb⟩
  | true =>
    obtain ⟨d, hof⟩ : ∃ d, dialOf A y = some d := by
      cases hof : dialOf A y with
      | none => unfold readyP at hrd; rw [hof] at hrd; cases hrd
      | some d => exact ⟨d, rfl⟩
    obtain ⟨hx, hby, hi, hlt⟩ := dial_some hof
    obtain ⟨he1, he2⟩ := end_as hof hrd.symm hby
    rw [← hB] at he1
    rw [← hm] at he2
    obtain rfl : r = 0 := by rw [hr]; unfold endE; rw [← hrd]; rfl
    obtain rfl : ix = (dialIx A y : Nat) := by rw [hix]; exact hi
    clear hB hm hr hrd hix hi hof hby
    generalize dialIx A y = k at *
    have HM := Lib.hid (fun W (hle : l1 ≤ W.heap.size) (hE : EvIn l1 W g u A) => HH.out l1 g u A k d W hS hMk hx hle hE B m he1 he2)
    clear hx he1 he2 hlt
    obtain ⟨⟨x0, x1, x2, x3, x4, x5, x6, x7, x8, x9⟩, f0, f1, f2, f3, f4, f5, f6, f7, f8, f9⟩ := boxes10 HE.out.box
    have HX := Lib.hid (HD.out u w3 HE.out.dials.row)
    have hld := loadS (v := u) (A := A) HE.out.box
    go_wp2_with fail
    with_reducible refine HX.out.mono ?_
    rintro e w4 ⟨rfl, hb⟩
    clear x0 x1 x2 x3 x4 x5 x6 x7 x8 x9 f0 f1 f2 f3 f4 f5 f6 f7 f8 f9
    clear hld HX HD
    replace HE := Lib.hid (HE.out.below hb)
    replace Hres := Lib.hid ((hb.block _ (lt_of_block Hres.out)).trans Hres.out)
    replace Hltr := Lib.hid ((hb.block _ (lt_of_block Hltr.out)).trans Hltr.out)
    replace HB := Lib.hid (HB.out.trans (hb.mono HB.out.size))
    replace hl1w : l1 ≤ w4.heap.size := Nat.le_trans hl1w hb.size
    clear hb
    have HX := Lib.hid (HM.out w4 hl1w HE.out)
    clear HM
    go_wp2_with fail
    with_reducible refine HX.out.mono ?_
    rintro e w5 ⟨u5, rfl, hE5, hb⟩
    clear HX
    clear HE
    have HE := Lib.hid hE5
    clear hE5
    replace Hres := Lib.hid ((hb.block _ hr1).trans Hres.out)
    replace Hltr := Lib.hid ((hb.block _ hr2).trans Hltr.out)
    replace HB := Lib.hid (HB.out.trans (hb.mono (by omega)))
    replace hl1w : l1 ≤ w5.heap.size := Nat.le_trans hl1w hb.size
    clear hb
    simp only [Lt.v]
    go_upto_region 5 with fail
    have hb := below1 w5 (.cells #[.int .i8 m.kind, .int .i64 m.fr, .int .i64 m.num, .int .i64 m.sock, .string m.text, .int .i64 m.e] 42)
    have hL := laid1 w5 (.cells #[.int .i8 m.kind, .int .i64 m.fr, .int .i64 m.num, .int .i64 m.sock, .string m.text, .int .i64 m.e] 42)
    obtain ⟨w6, hw6⟩ : ∃ X, X = w5.alloc (.cells #[.int .i8 m.kind, .int .i64 m.fr, .int .i64 m.num, .int .i64 m.sock, .string m.text, .int .i64 m.e] 42) := ⟨_, rfl⟩
    rw [← hw6] at hb hL ⊢
    clear hw6
    have hgm1 : w5.heap.size ≠ r1 := by omega
    have hgm2 : w5.heap.size ≠ r2 := by omega
    generalize w5.heap.size = gm at hL hgm1 hgm2 ⊢
    have Hm := Lib.hid hL
    replace HE := Lib.hid (HE.out.below hb)
    replace Hres := Lib.hid ((hb.block _ (lt_of_block Hres.out)).trans Hres.out)
    replace Hltr := Lib.hid ((hb.block _ (lt_of_block Hltr.out)).trans Hltr.out)
    replace HB := Lib.hid (HB.out.trans (hb.mono HB.out.size))
    replace hl1w : l1 ≤ w6.heap.size := Nat.le_trans hl1w hb.size
    clear hb hL
    obtain ⟨⟨y0, y1, y2, y3, y4, y5, y6, y7, y8, y9⟩, g0, g1, g2, g3, g4, g5, g6, g7, g8, g9⟩ := boxes10 Hres.out
    obtain ⟨⟨t0, t1, t2, t3, t4, t5⟩, s0, s1, s2, s3, s4, s5⟩ := boxes6 Hltr.out
    have hld := loadW2 (v := u5) (A := B) HE.out.box
    obtain ⟨hr12, hr21⟩ := HR12.out
    obtain ⟨⟨x0, x1, x2, x3, x4, x5, x6, x7, x8, x9⟩, f0, f1, f2, f3, f4, f5, f6, f7, f8, f9⟩ := boxes10 HE.out.box
    clear f0 f1 f2 f3 f4 f5 f6 f7 f8 f9
    obtain ⟨⟨m0, m1, m2, m3, m4, m5⟩, n0, n1, n2, n3, n4, n5⟩ := boxes6 Hm.out
    have hldm := load_Lt Hm.out
    go_region_law (fail)
    all_goals
      clear hld hldm m0 m1 m2 m3 m4 m5 n0 n1 n2 n3 n4 n5 t0 t1 t2 t3 t4 t5 s0 s1 s2 s3 s4 s5 y0 y1 y2 y3 y4 y5 y6 y7 y8 y9 g0 g1 g2 g3 g4 g5 g6 g7 g8 g9 x0 x1 x2 x3 x4 x5 x6 x7 x8 x9
      go_wp2_with fail
      have hz2 := set10_at Hres.out (.slice u5.p.za B.plan.zones.length u5.p.zc) (.slice u5.p.fa B.plan.fates.length u5.p.fc) (.int .i64 B.plan.ticks) (.slice u5.p.da B.plan.drops.length u5.p.dc) (.int .i64 B.clock) (.slice u5.sa B.socks.length u5.sc) (.slice u5.ia B.dials.length u5.ic) (.slice u5.la B.looks.length u5.lc) (.int .i64 B.dropped) (.slice u5.ma B.marks.length u5.mc)
      have hb2 := set10_below HB.out hlr1 (.slice u5.p.za B.plan.zones.length u5.p.zc) (.slice u5.p.fa B.plan.fates.length u5.p.fc) (.int .i64 B.plan.ticks) (.slice u5.p.da B.plan.drops.length u5.p.dc) (.int .i64 B.clock) (.slice u5.sa B.socks.length u5.sc) (.slice u5.ia B.dials.length u5.ic) (.slice u5.la B.looks.length u5.lc) (.int .i64 B.dropped) (.slice u5.ma B.marks.length u5.mc)
      have hm2 := (set10_other w6 r1 r2 (.slice u5.p.za B.plan.zones.length u5.p.zc) (.slice u5.p.fa B.plan.fates.length u5.p.fc) (.int .i64 B.plan.ticks) (.slice u5.p.da B.plan.drops.length u5.p.dc) (.int .i64 B.clock) (.slice u5.sa B.socks.length u5.sc) (.slice u5.ia B.dials.length u5.ic) (.slice u5.la B.looks.length u5.lc) (.int .i64 B.dropped) (.slice u5.ma B.marks.length u5.mc) hr12).trans Hltr.out
      have hfl := HE.out.ret (r := r1) hr1 (N := fun b => N b ∨ b = r2) (fun b hb => by rcases hb with hb | hb; (have := HNN.out b hb; omega); omega) (.slice u5.p.za B.plan.zones.length u5.p.zc) (.slice u5.p.fa B.plan.fates.length u5.p.fc) (.int .i64 B.plan.ticks) (.slice u5.p.da B.plan.drops.length u5.p.dc) (.int .i64 B.clock) (.slice u5.sa B.socks.length u5.sc) (.slice u5.ia B.dials.length u5.ic) (.slice u5.la B.looks.length u5.lc) (.int .i64 B.dropped) (.slice u5.ma B.marks.length u5.mc)
      have hm3 : ((set10 w6 r1 (.slice u5.p.za B.plan.zones.length u5.p.zc) (.slice u5.p.fa B.plan.fates.length u5.p.fc) (.int .i64 B.plan.ticks) (.slice u5.p.da B.plan.drops.length u5.p.dc) (.int .i64 B.clock) (.slice u5.sa B.socks.length u5.sc) (.slice u5.ia B.dials.length u5.ic) (.slice u5.la B.looks.length u5.lc) (.int .i64 B.dropped) (.slice u5.ma B.marks.length u5.mc)).setCell ⟨r2, 0, none⟩ (.int .i8 m.kind)).heap[r2]? = some (.cells #[.int .i8 m.kind, .int .i64 0, .int .i64 0, .int .i64 0, .string { data := #[] }, .int .i64 0] 42 (0, 0)) := set_at hm2 0 _
      have hm4 : (((set10 w6 r1 (.slice u5.p.za B.plan.zones.length u5.p.zc) (.slice u5.p.fa B.plan.fates.length u5.p.fc) (.int .i64 B.plan.ticks) (.slice u5.p.da B.plan.drops.length u5.p.dc) (.int .i64 B.clock) (.slice u5.sa B.socks.length u5.sc) (.slice u5.ia B.dials.length u5.ic) (.slice u5.la B.looks.length u5.lc) (.int .i64 B.dropped) (.slice u5.ma B.marks.length u5.mc)).setCell ⟨r2, 0, none⟩ (.int .i8 m.kind)).setCell ⟨r2, 1, none⟩ (.int .i64 m.fr)).heap[r2]? = some (.cells #[.int .i8 m.kind, .int .i64 m.fr, .int .i64 0, .int .i64 0, .string { data := #[] }, .int .i64 0] 42 (0, 0)) := set_at hm3 1 _
      have hm5 : ((((set10 w6 r1 (.slice u5.p.za B.plan.zones.length u5.p.zc) (.slice u5.p.fa B.plan.fates.length u5.p.fc) (.int .i64 B.plan.ticks) (.slice u5.p.da B.plan.drops.length u5.p.dc) (.int .i64 B.clock) (.slice u5.sa B.socks.length u5.sc) (.slice u5.ia B.dials.length u5.ic) (.slice u5.la B.looks.length u5.lc) (.int .i64 B.dropped) (.slice u5.ma B.marks.length u5.mc)).setCell ⟨r2, 0, none⟩ (.int .i8 m.kind)).setCell ⟨r2, 1, none⟩ (.int .i64 m.fr)).setCell ⟨r2, 2, none⟩ (.int .i64 m.num)).heap[r2]? = some (.cells #[.int .i8 m.kind, .int .i64 m.fr, .int .i64 m.num, .int .i64 0, .string { data := #[] }, .int .i64 0] 42 (0, 0)) := set_at hm4 2 _
      have hm6 : (((((set10 w6 r1 (.slice u5.p.za B.plan.zones.length u5.p.zc) (.slice u5.p.fa B.plan.fates.length u5.p.fc) (.int .i64 B.plan.ticks) (.slice u5.p.da B.plan.drops.length u5.p.dc) (.int .i64 B.clock) (.slice u5.sa B.socks.length u5.sc) (.slice u5.ia B.dials.length u5.ic) (.slice u5.la B.looks.length u5.lc) (.int .i64 B.dropped) (.slice u5.ma B.marks.length u5.mc)).setCell ⟨r2, 0, none⟩ (.int .i8 m.kind)).setCell ⟨r2, 1, none⟩ (.int .i64 m.fr)).setCell ⟨r2, 2, none⟩ (.int .i64 m.num)).setCell ⟨r2, 3, none⟩ (.int .i64 m.sock)).heap[r2]? = some (.cells #[.int .i8 m.kind, .int .i64 m.fr, .int .i64 m.num, .int .i64 m.sock, .string { data := #[] }, .int .i64 0] 42 (0, 0)) := set_at hm5 3 _
      have hm7 : ((((((set10 w6 r1 (.slice u5.p.za B.plan.zones.length u5.p.zc) (.slice u5.p.fa B.plan.fates.length u5.p.fc) (.int .i64 B.plan.ticks) (.slice u5.p.da B.plan.drops.length u5.p.dc) (.int .i64 B.clock) (.slice u5.sa B.socks.length u5.sc) (.slice u5.ia B.dials.length u5.ic) (.slice u5.la B.looks.length u5.lc) (.int .i64 B.dropped) (.slice u5.ma B.marks.length u5.mc)).setCell ⟨r2, 0, none⟩ (.int .i8 m.kind)).setCell ⟨r2, 1, none⟩ (.int .i64 m.fr)).setCell ⟨r2, 2, none⟩ (.int .i64 m.num)).setCell ⟨r2, 3, none⟩ (.int .i64 m.sock)).setCell ⟨r2, 4, none⟩ (.string m.text)).heap[r2]? = some (.cells #[.int .i8 m.kind, .int .i64 m.fr, .int .i64 m.num, .int .i64 m.sock, .string m.text, .int .i64 0] 42 (0, 0)) := set_at hm6 4 _
      have hm8 : (((((((set10 w6 r1 (.slice u5.p.za B.plan.zones.length u5.p.zc) (.slice u5.p.fa B.plan.fates.length u5.p.fc) (.int .i64 B.plan.ticks) (.slice u5.p.da B.plan.drops.length u5.p.dc) (.int .i64 B.clock) (.slice u5.sa B.socks.length u5.sc) (.slice u5.ia B.dials.length u5.ic) (.slice u5.la B.looks.length u5.lc) (.int .i64 B.dropped) (.slice u5.ma B.marks.length u5.mc)).setCell ⟨r2, 0, none⟩ (.int .i8 m.kind)).setCell ⟨r2, 1, none⟩ (.int .i64 m.fr)).setCell ⟨r2, 2, none⟩ (.int .i64 m.num)).setCell ⟨r2, 3, none⟩ (.int .i64 m.sock)).setCell ⟨r2, 4, none⟩ (.string m.text)).setCell ⟨r2, 5, none⟩ (.int .i64 m.e)).heap[r2]? = some (.cells #[.int .i8 m.kind, .int .i64 m.fr, .int .i64 m.num, .int .i64 m.sock, .string m.text, .int .i64 m.e] 42 (0, 0)) := set_at hm7 5 _
      have hzz := ((Below.heap_setCell _ ⟨r2, 5, none⟩ (.int .i64 m.e) r1 hr21).trans ((Below.heap_setCell _ ⟨r2, 4, none⟩ (.string m.text) r1 hr21).trans ((Below.heap_setCell _ ⟨r2, 3, none⟩ (.int .i64 m.sock) r1 hr21).trans ((Below.heap_setCell _ ⟨r2, 2, none⟩ (.int .i64 m.num) r1 hr21).trans ((Below.heap_setCell _ ⟨r2, 1, none⟩ (.int .i64 m.fr) r1 hr21).trans ((Below.heap_setCell _ ⟨r2, 0, none⟩ (.int .i8 m.kind) r1 hr21).trans hz2))))))
      have hbb := ((((((hb2.setCell (p := ⟨r2, 0, none⟩) hlr2 (.int .i8 m.kind)).setCell (p := ⟨r2, 1, none⟩) hlr2 (.int .i64 m.fr)).setCell (p := ⟨r2, 2, none⟩) hlr2 (.int .i64 m.num)).setCell (p := ⟨r2, 3, none⟩) hlr2 (.int .i64 m.sock)).setCell (p := ⟨r2, 4, none⟩) hlr2 (.string m.text)).setCell (p := ⟨r2, 5, none⟩) hlr2 (.int .i64 m.e))
      have hff := ((((((hfl.set (p := ⟨r2, 0, none⟩) (.inr rfl) (.int .i8 m.kind)).set (p := ⟨r2, 1, none⟩) (.inr rfl) (.int .i64 m.fr)).set (p := ⟨r2, 2, none⟩) (.inr rfl) (.int .i64 m.num)).set (p := ⟨r2, 3, none⟩) (.inr rfl) (.int .i64 m.sock)).set (p := ⟨r2, 4, none⟩) (.inr rfl) (.string m.text)).set (p := ⟨r2, 5, none⟩) (.inr rfl) (.int .i64 m.e))
      have hzz9 := drew_at hzz
      have hmm9 := drew_at hm8
      have hbb9 := hbb.drew
      have hff9 := flat_drew hff
      obtain ⟨qf, hqf⟩ : ∃ X, X = ((((((((set10 w6 r1 (.slice u5.p.za B.plan.zones.length u5.p.zc) (.slice u5.p.fa B.plan.fates.length u5.p.fc) (.int .i64 B.plan.ticks) (.slice u5.p.da B.plan.drops.length u5.p.dc) (.int .i64 B.clock) (.slice u5.sa B.socks.length u5.sc) (.slice u5.ia B.dials.length u5.ic) (.slice u5.la B.looks.length u5.lc) (.int .i64 B.dropped) (.slice u5.ma B.marks.length u5.mc)).setCell ⟨r2, 0, none⟩ (.int .i8 m.kind)).setCell ⟨r2, 1, none⟩ (.int .i64 m.fr)).setCell ⟨r2, 2, none⟩ (.int .i64 m.num)).setCell ⟨r2, 3, none⟩ (.int .i64 m.sock)).setCell ⟨r2, 4, none⟩ (.string m.text)).setCell ⟨r2, 5, none⟩ (.int .i64 m.e))).drew := ⟨_, rfl⟩
      rw [← hqf] at hzz9 hmm9 hbb9 hff9
      unfold set10 at hqf
      rw [← hqf]
      clear hqf hzz hbb hff
      have hzz := hzz9
      have hbb := hbb9
      have hff := hff9
      refine bodyPost_ret (res_cell_cell_tmp rfl _ _ _ r1 r2 rfl rfl _ _ (loadW2 (v := u5) (A := B) hzz) (load_Lt (x := m) hmm9)) rfl ?_
      exact ⟨u5, by first | rfl | exact HFin.out, hff.more (fun b hb => .inl (.inl hb)), hbb⟩

end Go.Proofs.YtciohjgcndgiaaaGreatDoor
