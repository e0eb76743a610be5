/- A lookup is answered: the landed world's own method; Answer. -/
import Derived.Test.YtciohjgcndgiaaaGreatDoorEvt
import Derived.Test.YtciohjgcndgiaaaGreatDoorMethL
import Derived.Test.YtciohjgcndgiaaaGreatDoorSpecsA
import Derived.Test.YtciohjgcndgiaaaGreatDoorTexts
import Derived.Test.YtciohjgcndgiaaaGreatDoorFindA
import Derived.Test.YtciohjgcndgiaaaGreatDoorCheckQ
set_option linter.unusedSimpArgs false
set_option linter.unusedVariables false
namespace Go.Proofs.YtciohjgcndgiaaaGreatDoor
open Go.RowKit Go.Proofs.YtciohjgcndgiaaaGreatDoor.Kind

theorem drewA_at {w : World} {b : Nat} {o : Obj} (h : w.heap[b]? = some o) : w.drew.heap[b]? = some o := h
theorem flatA_drew {N : Nat → Prop} {w : World} {v : Wv} {A : Wo} (h : FlatN N w v A) : FlatN N w.drew v A := h.below (Below.refl _ _).drew
theorem EvX.lookBlk {base g : Nat} {X : Nat → Prop} {W : World} {v : Wv} {A : Wo} (h : EvX base X W g v A) {k : Nat} {x : Lo} {gd o : Nat} (hx : A.looks[k]? = some x) (e : v.la = some ⟨gd, o, none⟩) : ¬ X gd := by
  have hc : 0 < v.lc := by have := h.looks.1; have := (List.getElem?_eq_some_iff.1 hx).1; omega
  have := h.xl hc
  rw [bk_some e hc] at this
  exact this
theorem may_toR (x : Ad) : R2.mayP (toR x) = mayP x := rfl
theorem ans_mem {P : Pl} {s : ByteArray} {n : Int} {x : Ad} (h : x ∈ answerP P s n) : ∃ z ∈ P.zones, ∃ l ∈ z.ans, answerP P s n = l := by
  unfold answerP at h ⊢
  split at h
  · cases h
  · rename_i z hz
    cases hl : z.ans[nthI n z.ans.length]? with
    | none => rw [hl] at h; cases h
    | some l => exact ⟨z, List.mem_of_find?_eq_some hz, l, List.mem_of_getElem? hl, by rfl⟩
theorem ans_fits {P : Pl} (hF : Fits P) (s : ByteArray) (n : Int) : ∀ x ∈ answerP P s n, okA x := fun x hx => by
  obtain ⟨z, hz, l, hl, e⟩ := ans_mem hx
  rw [e] at hx
  exact (hF z hz l hl).2 x hx
theorem ans_fine {P : Pl} (h : checkB theR P = true) (s : ByteArray) (n : Int) : (answerP P s n).length ≤ 16 ∧ ((answerP P s n).map toR).all R2.mayP = true := by
  cases hc : answerP P s n with
  | nil => exact ⟨by simp, rfl⟩
  | cons x t =>
    obtain ⟨z, hz, l, hl, e⟩ := ans_mem (x := x) (by rw [hc]; simp)
    have h3 : zokB z = true := by
      unfold checkB at h
      simp only [Bool.and_eq_true, List.all_eq_true] at h
      exact h.1.1.1.1.1.1.1.2 z hz
    unfold zokB at h3
    simp only [Bool.and_eq_true, List.all_eq_true] at h3
    have h4 := h3.2 l hl
    unfold ansB at h4
    simp only [Bool.and_eq_true, decide_eq_true_eq, List.all_eq_true] at h4
    rw [← hc, e]
    refine ⟨h4.1.1, ?_⟩
    rw [List.all_map, List.all_eq_true]
    intro y hy
    exact h4.1.2 y hy
set_option maxHeartbeats 40000000 in
set_option maxRecDepth 1000000 in
theorem ansm_any (base g : Nat) (u : Wv) (A : Wo) (k : Nat) (x : Lo) (W : World) (hx : A.looks[k]? = some x) (hlk : A.looks.length ≤ 400) (hle : base ≤ W.heap.size) (hE : EvIn base W g u A) (hFit : Fits A.plan) (hCk : checkB theR A.plan = true) (hEnv : ∀ W', Below base W W' → R2.Env W') (B : Wo) (M : Lt)
    (hB : B = { A with looks := A.looks.set k { x with over := true } })
    (hMv : M = if (answerP A.plan x.name x.nth).length = 0 then ⟨7, 0, 0, 0, { data := #[] }, 110⟩ else ⟨7, 0, 0, 0, theX.txt (answerP A.plan x.name x.nth), 0⟩) :
    Calls Tryz.prog 24 #[.pointer (some ⟨g, 0, none⟩), .int .i64 k] W fun e w' => ∃ u2, e = .returned M.v ∧ EvIn base w' g u2 B ∧ Below base W w' := by
  have hki := (List.getElem?_eq_some_iff.1 hx).1
  have hkI : (k : Int) < (A.looks.length : Int) := by omega
  have hb := below1 W (.cells #[.int .i8 0, .int .i64 0, .int .i64 0, .int .i64 0, .string { data := #[] }, .int .i64 0] 42)
  have hL := laid1 W (.cells #[.int .i8 0, .int .i64 0, .int .i64 0, .int .i64 0, .string { data := #[] }, .int .i64 0] 42)
  obtain ⟨W1, hW1⟩ : ∃ Y, Y = W.alloc (.cells #[.int .i8 0, .int .i64 0, .int .i64 0, .int .i64 0, .string { data := #[] }, .int .i64 0] 42) := ⟨_, rfl⟩
  have hsz : W1.heap.size = W.heap.size + 1 := by rw [hW1]; simp
  have hE1 := hE.apart (W' := W1) (Y := fun b => b = W.heap.size) (by rw [hW1]; exact hb) (fun b hb => by omega)
  obtain ⟨gd, o, hia, hgd, hne, hE3, hc3, hf3⟩ := hE1.pokeLook (i := 3) (y := { x with over := true }) (u := .bool true) hx (by decide) rfl
  have hgr := hE1.lookBlk hx hia
  obtain ⟨⟨x0, x1, x2, x3, x4, x5, x6, x7, x8, x9⟩, f0, f1, f2, f3, f4, f5, f6, f7, f8, f9⟩ := boxes10 hE1.box
  rw [hia] at x7
  have HB := Lib.hid (show Below base W W1 from by rw [hW1]; exact hb.mono hle)
  rw [← hW1] at hL
  have Hr := Lib.hid hL
  have HE3 := Lib.hid hE3
  clear hE hE1 hE3 hx hb hL
  have HEnv := Lib.hid hEnv
  have HFit := Lib.hid hFit
  have HCk := Lib.hid hCk
  have HMv := Lib.hid hMv
  have HBv := Lib.hid hB
  clear hEnv hFit hCk hMv hB
  go_enter Tryz.func24, Tryz.ntmps24
  go_upto_region 1 with fail
  rw [← hW1]
  clear hW1
  go_upto_region 2 with fail
  clear x0 x1 x2 x3 x4 x5 x6 x7 x8 x9 f0 f1 f2 f3 f4 f5 f6 f7 f8 f9 hc3 hf3
  obtain ⟨q1, hq1⟩ : ∃ Y, Y = W1.setCell ⟨gd, o + k * 4 + 3, none⟩ (.bool true) := ⟨_, rfl⟩
  have hr1 := (Below.heap_setCell W1 ⟨gd, o + k * 4 + 3, none⟩ (.bool true) W.heap.size (by dsimp only; intro e; exact hgr (.inr e.symm))).trans Hr.out
  have hb1 := HB.out.setCell (p := ⟨gd, o + k * 4 + 3, none⟩) hgd (.bool true)
  have hE4 := HE3.out
  have hs1 : (W1.setCell ⟨gd, o + k * 4 + 3, none⟩ (.bool true)).heap.size = W1.heap.size := by simp
  rw [← hq1] at hr1 hb1 hE4 hs1 ⊢
  clear hq1
  replace Hr := Lib.hid hr1
  replace HB := Lib.hid hb1
  have HE := Lib.hid hE4
  have Hs := Lib.hid (show q1.heap.size = W.heap.size + 1 by omega)
  clear hr1 hb1 hE4 hs1 HE3 hgr
  obtain ⟨gd2, o2, hia2, _, hat⟩ := HE.out.looks.row.2.2.2 (by simp; omega)
  rw [hia] at hia2
  injection hia2 with hia2
  injection hia2 with e1 e2 e3
  subst e1 e2
  obtain ⟨d0, d1, d2, d3⟩ := LK.cells hat (List.getElem?_set_self hki)
  clear hat
  obtain ⟨⟨x0, x1, x2, x3, x4, x5, x6, x7, x8, x9⟩, f0, f1, f2, f3, f4, f5, f6, f7, f8, f9⟩ := boxes10 HE.out.box
  simp only [List.length_set] at x7
  rw [hia] at x7
  go_upto_region 3 with fail
  clear d0 d1 d2 d3 x0 x1 x2 x3 x4 x5 x6 x7 x8 x9 f0 f1 f2 f3 f4 f5 f6 f7 f8 f9
  have hb := below1 q1 (.cells #[.int .i64 x.by_, .string x.name, .int .i64 x.nth, .bool true] 77)
  have hL := laid1 q1 (.cells #[.int .i64 x.by_, .string x.name, .int .i64 x.nth, .bool true] 77)
  obtain ⟨q2, hq2⟩ : ∃ Y, Y = q1.alloc (.cells #[.int .i64 x.by_, .string x.name, .int .i64 x.nth, .bool true] 77) := ⟨_, rfl⟩
  have hs2 : q2.heap.size = q1.heap.size + 1 := by rw [hq2]; simp
  rw [← hq2] at hb hL ⊢
  clear hq2
  obtain ⟨rd, hrd⟩ : ∃ n, n = q1.heap.size := ⟨_, rfl⟩
  rw [← hrd] at hL hs2 ⊢
  replace HE := Lib.hid (HE.out.below hb)
  replace Hr := Lib.hid ((hb.block _ (lt_of_block Hr.out)).trans Hr.out)
  replace HB := Lib.hid (HB.out.trans (hb.mono (by have := HB.out.size; omega)))
  have Hd := Lib.hid hL
  clear hb hL hs2 hrd Hs hia hsz hgd hne hki hkI
  obtain ⟨r, hr⟩ : ∃ r, r = answerE A.plan x.name x.nth := ⟨_, rfl⟩
  obtain ⟨L, hLn⟩ : ∃ L, L = answerP A.plan x.name x.nth := ⟨_, rfl⟩
  have HC := Lib.hid (fun V (h : Below q2.heap.size q2 V) => answer_real A.plan u.p x.name x.nth V L r HFit.out (HE.out.below h).plan.now hLn hr)
  simp only [Pv.val] at HC
  have HSB := Lib.hid (show ∀ V : World, Below q2.heap.size q2 V → ((V.cell? ⟨g, 0, none⟩ = some (.slice u.p.za A.plan.zones.length u.p.zc) ∧ V.cell? ⟨g, 1, none⟩ = some (.slice u.p.fa A.plan.fates.length u.p.fc) ∧ V.cell? ⟨g, 2, none⟩ = some (.int .i64 A.plan.ticks) ∧ V.cell? ⟨g, 3, none⟩ = some (.slice u.p.da A.plan.drops.length u.p.dc)) ∧ (V.cell? ⟨rd, 0, none⟩ = some (.int .i64 x.by_) ∧ V.cell? ⟨rd, 1, none⟩ = some (.string x.name) ∧ V.cell? ⟨rd, 2, none⟩ = some (.int .i64 x.nth) ∧ V.cell? ⟨rd, 3, none⟩ = some (.bool true))) ∧ Below q2.heap.size q2 V from fun V h => ⟨⟨by have q := (boxes10 ((h.block _ (lt_of_block HE.out.box)).trans HE.out.box)).1; exact ⟨q.1, q.2.1, q.2.2.1, q.2.2.2.1⟩, (boxes4 ((h.block _ (lt_of_block Hd.out)).trans Hd.out)).1⟩, h⟩)
  have HLn := Lib.hid hLn
  have HR0 := Lib.hid hr
  clear hLn hr
  go_region_held3 (fun V => ((V.cell? ⟨g, 0, none⟩ = some (.slice u.p.za A.plan.zones.length u.p.zc) ∧ V.cell? ⟨g, 1, none⟩ = some (.slice u.p.fa A.plan.fates.length u.p.fc) ∧ V.cell? ⟨g, 2, none⟩ = some (.int .i64 A.plan.ticks) ∧ V.cell? ⟨g, 3, none⟩ = some (.slice u.p.da A.plan.drops.length u.p.dc)) ∧ (V.cell? ⟨rd, 0, none⟩ = some (.int .i64 x.by_) ∧ V.cell? ⟨rd, 1, none⟩ = some (.string x.name) ∧ V.cell? ⟨rd, 2, none⟩ = some (.int .i64 x.nth) ∧ V.cell? ⟨rd, 3, none⟩ = some (.bool true))) ∧ Below q2.heap.size q2 V)
    (first | assumption | exact HSB.out _ (Below.refl _ _) | exact HSB.out _ (kept_call (by assumption) hbC) | exact HSB.out _ (Below.refl _ _).drew)
    (first
      | (go_at_call 53; (with_reducible refine (HC.out _ (kept_self (by assumption))).mono ?_); rintro e wC ⟨aL, cL, rfl, hRL, hbC⟩))
  have hb : Below q2.heap.size q2 wC := by first | exact kept_self (by assumption) | exact kept_call (by assumption) hbC | exact kept_call (by assumption) (Below.refl _ wC)
  have HRL := Lib.hid (show AK.RowC wC aL cL L from by first | exact hRL | exact hRL.below (Below.refl _ _).drew)
  clear HSB HC hRL
  replace HE := Lib.hid (HE.out.below hb)
  replace Hr := Lib.hid ((hb.block _ (lt_of_block Hr.out)).trans Hr.out)
  replace HB := Lib.hid (HB.out.trans (hb.mono (by have := HB.out.size; omega)))
  clear hb Hd
  obtain ⟨hl16, hmy⟩ := ans_fine HCk.out x.name x.nth
  rw [← HLn.out] at hl16 hmy
  have hbad : (if (R2.P.rowP (L.map toR)).isSome = true then (0 : Int) else 20) = 0 := by rw [if_pos (row_some hl16 hmy)]
  have HX := addrow_real L aL cL wC (by omega) (by rw [HLn.out]; exact ans_fits HFit.out x.name x.nth) HRL.out (HEnv.out wC HB.out)
  rw [hbad] at HX
  replace HX := Lib.hid HX
  clear hbad hl16 hmy HRL
  go_wp2_with fail
  with_reducible refine HX.out.mono ?_
  rintro e wD ⟨rfl, hb⟩
  replace HE := Lib.hid (HE.out.below hb)
  replace Hr := Lib.hid ((hb.block _ (lt_of_block Hr.out)).trans Hr.out)
  replace HB := Lib.hid (HB.out.trans (hb.mono (by have := HB.out.size; omega)))
  clear hb HX
  have hrE := HR0.out
  unfold answerE at hrE
  rw [← HLn.out] at hrE
  have hMe := HMv.out
  rw [← HLn.out] at hMe
  clear HR0 HMv
  obtain ⟨⟨z0, z1, z2, z3, z4, z5⟩, h0, h1, h2, h3, h4, h5⟩ := boxes6 Hr.out
  by_cases hl0 : L.length = 0
  · obtain rfl : r = 110 := by rw [hrE, if_pos hl0]
    have hMq := Lib.hid (show M = ⟨7, 0, 0, 0, { data := #[] }, 110⟩ by rw [hMe, if_pos hl0])
    obtain rfl := hMq.out
    clear hrE hMe hl0
    go_wp2_with fail
    have g0 : (wD.setCell ⟨W.heap.size, 0, none⟩ (.int .i8 7)).heap[W.heap.size]? = some (.cells #[.int .i8 7, .int .i64 0, .int .i64 0, .int .i64 0, .string { data := #[] }, .int .i64 0] 42 (0, 0)) := set_at Hr.out 0 _
    have g1 : ((wD.setCell ⟨W.heap.size, 0, none⟩ (.int .i8 7)).setCell ⟨W.heap.size, 1, none⟩ (.int .i64 0)).heap[W.heap.size]? = some (.cells #[.int .i8 7, .int .i64 0, .int .i64 0, .int .i64 0, .string { data := #[] }, .int .i64 0] 42 (0, 0)) := set_at g0 1 _
    have g2 : (((wD.setCell ⟨W.heap.size, 0, none⟩ (.int .i8 7)).setCell ⟨W.heap.size, 1, none⟩ (.int .i64 0)).setCell ⟨W.heap.size, 2, none⟩ (.int .i64 0)).heap[W.heap.size]? = some (.cells #[.int .i8 7, .int .i64 0, .int .i64 0, .int .i64 0, .string { data := #[] }, .int .i64 0] 42 (0, 0)) := set_at g1 2 _
    have g3 : ((((wD.setCell ⟨W.heap.size, 0, none⟩ (.int .i8 7)).setCell ⟨W.heap.size, 1, none⟩ (.int .i64 0)).setCell ⟨W.heap.size, 2, none⟩ (.int .i64 0)).setCell ⟨W.heap.size, 3, none⟩ (.int .i64 0)).heap[W.heap.size]? = some (.cells #[.int .i8 7, .int .i64 0, .int .i64 0, .int .i64 0, .string { data := #[] }, .int .i64 0] 42 (0, 0)) := set_at g2 3 _
    have g4 : (((((wD.setCell ⟨W.heap.size, 0, none⟩ (.int .i8 7)).setCell ⟨W.heap.size, 1, none⟩ (.int .i64 0)).setCell ⟨W.heap.size, 2, none⟩ (.int .i64 0)).setCell ⟨W.heap.size, 3, none⟩ (.int .i64 0)).setCell ⟨W.heap.size, 4, none⟩ (.string { data := #[] })).heap[W.heap.size]? = some (.cells #[.int .i8 7, .int .i64 0, .int .i64 0, .int .i64 0, .string { data := #[] }, .int .i64 0] 42 (0, 0)) := set_at g3 4 _
    have g5 : ((((((wD.setCell ⟨W.heap.size, 0, none⟩ (.int .i8 7)).setCell ⟨W.heap.size, 1, none⟩ (.int .i64 0)).setCell ⟨W.heap.size, 2, none⟩ (.int .i64 0)).setCell ⟨W.heap.size, 3, none⟩ (.int .i64 0)).setCell ⟨W.heap.size, 4, none⟩ (.string { data := #[] })).setCell ⟨W.heap.size, 5, none⟩ (.int .i64 110)).heap[W.heap.size]? = some (.cells #[.int .i8 7, .int .i64 0, .int .i64 0, .int .i64 0, .string { data := #[] }, .int .i64 110] 42 (0, 0)) := set_at g4 5 _
    refine bodyPost_ret (res_cell rfl _ _ _ W.heap.size rfl _ (load_Lt (x := ⟨7, 0, 0, 0, { data := #[] }, 110⟩) g5)) rfl ?_
    have hfin := ((((((HE.out.setX (p := ⟨W.heap.size, 0, none⟩) (.inr rfl) (.int .i8 7)).setX (p := ⟨W.heap.size, 1, none⟩) (.inr rfl) (.int .i64 0)).setX (p := ⟨W.heap.size, 2, none⟩) (.inr rfl) (.int .i64 0)).setX (p := ⟨W.heap.size, 3, none⟩) (.inr rfl) (.int .i64 0)).setX (p := ⟨W.heap.size, 4, none⟩) (.inr rfl) (.string { data := #[] })).setX (p := ⟨W.heap.size, 5, none⟩) (.inr rfl) (.int .i64 110)).bare
    rw [← HBv.out] at hfin
    have hbf := ((((((HB.out.setCell (p := ⟨W.heap.size, 0, none⟩) hle (.int .i8 7)).setCell (p := ⟨W.heap.size, 1, none⟩) hle (.int .i64 0)).setCell (p := ⟨W.heap.size, 2, none⟩) hle (.int .i64 0)).setCell (p := ⟨W.heap.size, 3, none⟩) hle (.int .i64 0)).setCell (p := ⟨W.heap.size, 4, none⟩) hle (.string { data := #[] })).setCell (p := ⟨W.heap.size, 5, none⟩) hle (.int .i64 110))
    first | exact ⟨rfl, ⟨u, hfin⟩, hbf⟩ | exact ⟨u, rfl, hfin, hbf⟩ | (refine ⟨?_, ⟨u, hfin⟩, hbf⟩; rw [hMq.out])
  · obtain rfl : r = 0 := by rw [hrE, if_neg hl0]
    obtain ⟨tx, htx⟩ : ∃ t, t = theX.txt L := ⟨_, rfl⟩
    rw [← htx]
    have hMq := Lib.hid (show M = ⟨7, 0, 0, 0, tx, 0⟩ by rw [hMe, if_neg hl0, htx])
    obtain rfl := hMq.out
    clear hrE hMe hl0 htx
    go_wp2_with fail
    have g0 : (wD.setCell ⟨W.heap.size, 0, none⟩ (.int .i8 7)).heap[W.heap.size]? = some (.cells #[.int .i8 7, .int .i64 0, .int .i64 0, .int .i64 0, .string { data := #[] }, .int .i64 0] 42 (0, 0)) := set_at Hr.out 0 _
    have g1 : ((wD.setCell ⟨W.heap.size, 0, none⟩ (.int .i8 7)).setCell ⟨W.heap.size, 1, none⟩ (.int .i64 0)).heap[W.heap.size]? = some (.cells #[.int .i8 7, .int .i64 0, .int .i64 0, .int .i64 0, .string { data := #[] }, .int .i64 0] 42 (0, 0)) := set_at g0 1 _
    have g2 : (((wD.setCell ⟨W.heap.size, 0, none⟩ (.int .i8 7)).setCell ⟨W.heap.size, 1, none⟩ (.int .i64 0)).setCell ⟨W.heap.size, 2, none⟩ (.int .i64 0)).heap[W.heap.size]? = some (.cells #[.int .i8 7, .int .i64 0, .int .i64 0, .int .i64 0, .string { data := #[] }, .int .i64 0] 42 (0, 0)) := set_at g1 2 _
    have g3 : ((((wD.setCell ⟨W.heap.size, 0, none⟩ (.int .i8 7)).setCell ⟨W.heap.size, 1, none⟩ (.int .i64 0)).setCell ⟨W.heap.size, 2, none⟩ (.int .i64 0)).setCell ⟨W.heap.size, 3, none⟩ (.int .i64 0)).heap[W.heap.size]? = some (.cells #[.int .i8 7, .int .i64 0, .int .i64 0, .int .i64 0, .string { data := #[] }, .int .i64 0] 42 (0, 0)) := set_at g2 3 _
    have g4 : (((((wD.setCell ⟨W.heap.size, 0, none⟩ (.int .i8 7)).setCell ⟨W.heap.size, 1, none⟩ (.int .i64 0)).setCell ⟨W.heap.size, 2, none⟩ (.int .i64 0)).setCell ⟨W.heap.size, 3, none⟩ (.int .i64 0)).setCell ⟨W.heap.size, 4, none⟩ (.string tx)).heap[W.heap.size]? = some (.cells #[.int .i8 7, .int .i64 0, .int .i64 0, .int .i64 0, .string tx, .int .i64 0] 42 (0, 0)) := set_at g3 4 _
    have g5 : ((((((wD.setCell ⟨W.heap.size, 0, none⟩ (.int .i8 7)).setCell ⟨W.heap.size, 1, none⟩ (.int .i64 0)).setCell ⟨W.heap.size, 2, none⟩ (.int .i64 0)).setCell ⟨W.heap.size, 3, none⟩ (.int .i64 0)).setCell ⟨W.heap.size, 4, none⟩ (.string tx)).setCell ⟨W.heap.size, 5, none⟩ (.int .i64 0)).heap[W.heap.size]? = some (.cells #[.int .i8 7, .int .i64 0, .int .i64 0, .int .i64 0, .string tx, .int .i64 0] 42 (0, 0)) := set_at g4 5 _
    refine bodyPost_ret (res_cell rfl _ _ _ W.heap.size rfl _ (load_Lt (x := ⟨7, 0, 0, 0, tx, 0⟩) g5)) rfl ?_
    have hfin := ((((((HE.out.setX (p := ⟨W.heap.size, 0, none⟩) (.inr rfl) (.int .i8 7)).setX (p := ⟨W.heap.size, 1, none⟩) (.inr rfl) (.int .i64 0)).setX (p := ⟨W.heap.size, 2, none⟩) (.inr rfl) (.int .i64 0)).setX (p := ⟨W.heap.size, 3, none⟩) (.inr rfl) (.int .i64 0)).setX (p := ⟨W.heap.size, 4, none⟩) (.inr rfl) (.string tx)).setX (p := ⟨W.heap.size, 5, none⟩) (.inr rfl) (.int .i64 0)).bare
    rw [← HBv.out] at hfin
    have hbf := ((((((HB.out.setCell (p := ⟨W.heap.size, 0, none⟩) hle (.int .i8 7)).setCell (p := ⟨W.heap.size, 1, none⟩) hle (.int .i64 0)).setCell (p := ⟨W.heap.size, 2, none⟩) hle (.int .i64 0)).setCell (p := ⟨W.heap.size, 3, none⟩) hle (.int .i64 0)).setCell (p := ⟨W.heap.size, 4, none⟩) hle (.string tx)).setCell (p := ⟨W.heap.size, 5, none⟩) hle (.int .i64 0))
    first | exact ⟨rfl, ⟨u, hfin⟩, hbf⟩ | exact ⟨u, rfl, hfin, hbf⟩ | (refine ⟨?_, ⟨u, hfin⟩, hbf⟩; rw [hMq.out])

end Go.Proofs.YtciohjgcndgiaaaGreatDoor
