/- Parse: addresses read. -/
import Derived.Test.YtbejnnkdgcelmaaGreatDoorSix
import Derived.Test.YtbejnnkdgcelmaaGreatDoorText
import Derived.Lib.LastIndexByte
set_option linter.unusedSimpArgs false
set_option linter.unusedVariables false
namespace Go.Proofs.YtbejnnkdgcelmaaGreatDoor
open Go.RowKit
def P.hostR (l : List UInt8) : Int × Option (List Nat) :=
  if Lib.hasPrefix l [91] = true ∧ Lib.hasSuffix (Lib.trimPrefix l [91]) [93] = true then (6, P.sixP (Lib.trimSuffix (Lib.trimPrefix l [91]) [93]))
  else (4, (P.fourP l).map fun x => [x.1, x.2, 0, 0, 0, 0, 0, 0])
/-- What stands in front of the port. -/
def adMk (f : Int) (gs : List Nat) (p : Int) : Ad := ⟨f, gs.getD 0 0, gs.getD 1 0, gs.getD 2 0, gs.getD 3 0, gs.getD 4 0, gs.getD 5 0, gs.getD 6 0, gs.getD 7 0, p⟩

theorem sixP_len (l : List UInt8) (gs : List Nat) (h : P.sixP l = some gs) : gs.length = 8 ∧ ∀ g ∈ gs, g ≤ 65535 := by
  unfold P.sixP at h
  split at h
  · rename_i A B hA hB
    have h1 := (P.grpsP_len _ _ hA).2
    have h2 := (P.grpsP_len _ _ hB).2
    unfold P.sixG at h
    split at h
    · cases h
    · rename_i hn
      simp at h; subst h
      refine ⟨?_, ?_⟩
      · have : A.length + B.length ≤ 8 := by
          cases hc : (Lib.cut l [58, 58]).2.2 <;> rw [hc] at hn <;> simp at hn <;> omega
        simp; omega
      · intro g hg
        simp only [List.mem_append, List.mem_replicate] at hg
        rcases hg with hg | ⟨_, rfl⟩ | hg
        · exact h1 g hg
        · omega
        · exact h2 g hg
  · cases h
theorem fourF_le : ∀ (ps : List (List UInt8)) (k x y : Nat) (o : Nat × Nat), P.fourF k x y ps = some o → k + ps.length ≤ 4 → (k = 0 ∧ x = 0 ∧ y = 0 ∨ k = 1 ∧ x ≤ 255 ∧ y = 0 ∨ k = 2 ∧ x ≤ 65535 ∧ y = 0 ∨ k = 3 ∧ x ≤ 65535 ∧ y ≤ 255 ∨ k = 4 ∧ x ≤ 65535 ∧ y ≤ 65535) → o.1 ≤ 65535 ∧ o.2 ≤ 65535
  | [], k, x, y, o, h, _, hc => by simp [P.fourF] at h; subst h; simp; omega
  | p :: ps, k, x, y, o, h, hl, hc => by
    cases hg : P.numP 255 p with
    | none => rw [fourF_none _ _ _ _ _ hg] at h; cases h
    | some n =>
      have hn := P.numP_le _ _ _ hg
      simp at hl
      by_cases hk : k < 2
      · rw [fourF_low _ _ _ _ _ _ hg hk] at h
        exact fourF_le ps _ _ _ o h (by omega) (by omega)
      · rw [fourF_high _ _ _ _ _ _ hg hk] at h
        exact fourF_le ps _ _ _ o h (by omega) (by omega)
theorem fourP_le (l : List UInt8) (o : Nat × Nat) (h : P.fourP l = some o) : o.1 ≤ 65535 ∧ o.2 ≤ 65535 := by
  unfold P.fourP at h
  split at h
  · exact fourF_le _ 0 0 0 o h (by omega) (by omega)
  · cases h
theorem hostR_ok (l : List UInt8) : (∀ gs, (P.hostR l).2 = some gs → gs.length = 8 ∧ ∀ g ∈ gs, g ≤ 65535) ∧ ((P.hostR l).1 = 4 ∨ (P.hostR l).1 = 6) := by
  unfold P.hostR
  split
  · exact ⟨fun gs h => sixP_len _ gs h, .inr rfl⟩
  · refine ⟨fun gs h => ?_, .inl rfl⟩
    simp only [Option.map_eq_some_iff] at h
    obtain ⟨o, ho, rfl⟩ := h
    obtain ⟨h1, h2⟩ := fourP_le _ _ ho
    refine ⟨rfl, fun g hg => ?_⟩
    simp only [List.mem_cons, List.not_mem_nil, or_false] at hg
    omega

theorem cutPrefix_any (s : ByteArray) (w : World) : Calls Tryz.prog 46 #[.string s, .string ⟨#[91]⟩] w fun e w' => e = .returned (.tuple #[.string ⟨(Lib.trimPrefix s.data.toList [91]).toArray⟩, .bool (Lib.hasPrefix s.data.toList [91])]) ∧ w' = w := Tryz.strings_CutPrefix s ⟨#[91]⟩ w
theorem cutSuffix_any (s : ByteArray) (w : World) (hs : s.size ≤ 4000) : Calls Tryz.prog 47 #[.string s, .string ⟨#[93]⟩] w fun e w' => e = .returned (.tuple #[.string ⟨(Lib.trimSuffix s.data.toList [93]).toArray⟩, .bool (Lib.hasSuffix s.data.toList [93])]) ∧ w' = w := Tryz.strings_CutSuffix s ⟨#[93]⟩ w (by omega)

theorem res_tmp_cell_tmp {fn : Func} {q p u : Tmp} {ty : TypeId} (h : fn.results = #[.tmp q, .cell p ty, .tmp u]) (tmps : Array Value) (Pr : Program) (w : World) (b : Nat) (hp : tmps.getD p undef = .pointer (some ⟨b, 0, none⟩)) (v : Value) (hl : (loadVar ty ⟨b, 0, none⟩).run Pr w = .ok v w) :
    (results fn tmps).run Pr w = .ok (.tuple #[tmps.getD q undef, v, tmps.getD u undef]) w := by
  have e : (results fn tmps).run Pr w = ((asAddr (tmps.getD p undef)).run Pr w).andThen fun a w₁ => ((loadVar ty a).run Pr w₁).andThen fun v w₂ => .ok (.tuple #[tmps.getD q undef, v, tmps.getD u undef]) w₂ := by
    simp only [results, h]
    simp [Sem.run_bind, Result.andThen]
  rw [e, hp, show (asAddr (.pointer (some ⟨b, 0, none⟩))).run Pr w = .ok ⟨b, 0, none⟩ w from rfl]
  simp only [Result.andThen_ok, hl]
def P.hostV (o : Option (List Nat)) : Value := .agg (P.u16s (o.getD P.zeros8)).toArray
set_option maxHeartbeats 16000000 in
set_option maxRecDepth 1000000 in
theorem readHost_any (s : ByteArray) (w : World) (hs : s.size ≤ 4000) (hE : Env w) :
    Calls Tryz.prog 27 #[.string s] w fun e w' => e = .returned (.tuple #[.int .i8 (P.hostR s.data.toList).1, P.hostV (P.hostR s.data.toList).2, .bool (P.hostR s.data.toList).2.isSome]) ∧ Below w.heap.size w w' := by
  have hlen : s.data.toList.length = s.size := by simp
  have hbw0 : Below w.heap.size w (w.alloc (Obj.cells #[.int .u16 0, .int .u16 0, .int .u16 0, .int .u16 0, .int .u16 0, .int .u16 0, .int .u16 0, .int .u16 0] 24)) := (Below.refl _ w).alloc (Nat.le_refl _) _
  have hG := g8_zero w 24
  generalize hW : w.alloc (Obj.cells #[.int .u16 0, .int .u16 0, .int .u16 0, .int .u16 0, .int .u16 0, .int .u16 0, .int .u16 0, .int .u16 0] 24) = W0 at *
  have hWs : W0.heap.size = w.heap.size + 1 := by rw [← hW]; simp
  have hE0 := hE.below hbw0
  obtain ⟨l1, h1⟩ : ∃ l1, Lib.trimPrefix s.data.toList [91] = l1 := ⟨_, rfl⟩
  obtain ⟨b1, h2⟩ : ∃ b, Lib.hasPrefix s.data.toList [91] = b := ⟨_, rfl⟩
  obtain ⟨l2, h3⟩ : ∃ l, Lib.trimSuffix l1 [93] = l := ⟨_, rfl⟩
  obtain ⟨b2, h4⟩ : ∃ b, Lib.hasSuffix l1 [93] = b := ⟨_, rfl⟩
  have hl1 : l1.length ≤ s.size := by rw [← h1, ← hlen]; unfold Lib.trimPrefix; split <;> simp
  have hl2 : l2.length ≤ s.size := by
    have : l2.length ≤ l1.length := by rw [← h3]; unfold Lib.trimSuffix; split <;> simp
    omega
  have C1 := cutPrefix_any s W0
  rw [h1, h2] at C1
  have C2 := cutSuffix_any ⟨l1.toArray⟩ W0 (by rw [size_of_list]; omega)
  rw [show (⟨l1.toArray⟩ : ByteArray).data.toList = l1 from by simp, h3, h4] at C2
  have C6 := readSix_any ⟨l2.toArray⟩ W0 (by rw [size_of_list]; omega) hE0
  rw [show (⟨l2.toArray⟩ : ByteArray).data.toList = l2 from by simp] at C6
  have C4 := readFour_any s W0 hs hE0
  have hR : P.hostR s.data.toList = if b1 = true ∧ b2 = true then (6, P.sixP l2) else (4, (P.fourP s.data.toList).map fun x => [x.1, x.2, 0, 0, 0, 0, 0, 0]) := by
    unfold P.hostR; rw [h1, h2, h3, h4]
  have h6 := sixP_len l2
  have HC1 := Lib.hid C1
  have HC2 := Lib.hid C2
  have HC4 := Lib.hid C4
  have HC6 := Lib.hid C6
  have HR := Lib.hid hR
  have HW := Lib.hid hW
  have HG := Lib.hid hG
  clear C1 C2 C4 C6 hR hW hG hE hE0 h1 h2 h3 h4 hl1 hl2 hlen
  generalize (⟨l1.toArray⟩ : ByteArray) = S1 at *
  generalize (⟨l2.toArray⟩ : ByteArray) = S2 at *
  go_enter Tryz.func27, Tryz.ntmps27
  go_wp2_with fail
  rw [HW.out]
  with_reducible refine HC1.out.mono ?_
  rintro e w1 ⟨rfl, rfl⟩
  go_wp2_with fail
  with_reducible refine HC2.out.mono ?_
  rintro e w1 ⟨rfl, rfl⟩
  by_cases hb : b1 = true ∧ b2 = true
  · obtain ⟨rfl, rfl⟩ := hb
    obtain ⟨o, ho⟩ : ∃ o, P.sixP l2 = o := ⟨_, rfl⟩
    rw [ho] at HC6 HR h6
    obtain ⟨y0, y1, y2, y3, y4, y5, y6, y7, hY⟩ := list8 (o.getD P.zeros8) (by
      cases o with
      | none => rfl
      | some gs => exact (h6 gs rfl).1)
    have HR2 := Lib.hid (show P.hostR s.data.toList = (6, o) by rw [HR.out, if_pos ⟨rfl, rfl⟩])
    rw [hY] at HC6
    simp only [P.u16s, List.map_cons, List.map_nil] at HC6
    have HY := Lib.hid hY
    clear hY ho h6
    go_wp2_with fail
    with_reducible refine HC6.out.mono ?_
    rintro e w2 ⟨rfl, hb2⟩
    obtain ⟨c0, c1, c2, c3, c4, c5, c6, c7, fz⟩ := HG.out.below hb2 (by omega)
    go_wp2_with fail
    have hbw2 := hbw0.trans (hb2.mono (by omega))
    have hGm := G8.set8 ⟨c0, c1, c2, c3, c4, c5, c6, c7, fz⟩ y0 y1 y2 y3 y4 y5 y6 y7
    have hbm := set8_below hbw2 (Nat.le_refl w.heap.size) y0 y1 y2 y3 y4 y5 y6 y7
    have hsm := set8_size w2 w.heap.size y0 y1 y2 y3 y4 y5 y6 y7
    change Code.wp _ _ _ _ (set8 w2 w.heap.size y0 y1 y2 y3 y4 y5 y6 y7)
    generalize set8 w2 w.heap.size y0 y1 y2 y3 y4 y5 y6 y7 = Wm at *
    have hbs2 := hb2.size
    have hGd : G8 Wm.drew w.heap.size y0 y1 y2 y3 y4 y5 y6 y7 := hGm.below ((Below.refl Wm.heap.size Wm).drew) (by omega)
    have hbd := hbm.drew
    clear c0 c1 c2 c3 c4 c5 c6 c7 fz hb2
    obtain ⟨c0, c1, c2, c3, c4, c5, c6, c7, fz⟩ := hGd
    obtain ⟨m0, m1, m2, m3, m4, m5, m6, m7, fzm⟩ := id hGm
    go_region
    all_goals
      have hGs := hGm.set8 y0 y1 y2 y3 y4 y5 y6 y7
      have hss := set8_size Wm w.heap.size y0 y1 y2 y3 y4 y5 y6 y7
      have hGf : G8 (set8 Wm w.heap.size y0 y1 y2 y3 y4 y5 y6 y7).drew w.heap.size y0 y1 y2 y3 y4 y5 y6 y7 := hGs.below ((Below.refl (set8 Wm w.heap.size y0 y1 y2 y3 y4 y5 y6 y7).heap.size _).drew) (by omega)
      have hbf := (set8_below hbm (Nat.le_refl w.heap.size) y0 y1 y2 y3 y4 y5 y6 y7).drew
      change Exit.then _ _ _ _ (World.drew (set8 Wm w.heap.size y0 y1 y2 y3 y4 y5 y6 y7))
      generalize (set8 Wm w.heap.size y0 y1 y2 y3 y4 y5 y6 y7).drew = Wf at *
      clear hGs hss
      go_wp2_with fail
      refine bodyPost_ret (res_tmp_cell_tmp rfl _ _ _ w.heap.size rfl _ (loadVar_groups hGf)) rfl ?_
      exact ⟨by rw [HR2.out]; show _ = Ending.returned (.tuple #[.int .i8 6, .agg (P.u16s (o.getD P.zeros8)).toArray, .bool o.isSome]); rw [HY.out]; rfl, hbf⟩
  · have HR2 := Lib.hid (show P.hostR s.data.toList = (4, (P.fourP s.data.toList).map fun x => [x.1, x.2, 0, 0, 0, 0, 0, 0]) by rw [HR.out, if_neg hb])
    obtain ⟨o, ho⟩ : ∃ o, P.fourP s.data.toList = o := ⟨_, rfl⟩
    rw [ho] at HC4 HR2
    obtain ⟨y0, y1, hy0⟩ : ∃ y0 y1, o.getD (0, 0) = (y0, y1) := ⟨_, _, rfl⟩
    have HV := Lib.hid (show P.hostV (o.map fun x => [x.1, x.2, 0, 0, 0, 0, 0, 0]) = .agg #[.int .u16 (y0 : Int), .int .u16 (y1 : Int), .int .u16 0, .int .u16 0, .int .u16 0, .int .u16 0, .int .u16 0, .int .u16 0] by
      cases o with
      | none => simp at hy0; obtain ⟨rfl, rfl⟩ := hy0; rfl
      | some q => simp at hy0; subst hy0; rfl)
    have HS := Lib.hid (show (o.map fun x => [x.1, x.2, 0, 0, 0, 0, 0, 0]).isSome = o.isSome by cases o <;> rfl)
    unfold P.g4V at HC4
    rw [hy0] at HC4
    clear ho hy0
    have hcond : (b1 = true ∧ b2 = false) ∨ b1 = false := by cases b1 <;> cases b2 <;> simp_all
    clear hb
    have hE := HG.out
    rcases hcond with ⟨rfl, rfl⟩ | rfl
    all_goals
      go_wp2_with fail
      with_reducible refine HC4.out.mono ?_
      rintro e w2 ⟨rfl, hb2⟩
      obtain ⟨c0, c1, c2, c3, c4, c5, c6, c7, fz⟩ := HG.out.below hb2 (by omega)
      go_wp2_with fail
      have hbw2 := hbw0.trans (hb2.mono (by omega))
      have hGm := G8.set8 ⟨c0, c1, c2, c3, c4, c5, c6, c7, fz⟩ y0 y1 0 0 0 0 0 0
      have hbm := set8_below hbw2 (Nat.le_refl w.heap.size) y0 y1 0 0 0 0 0 0
      have hsm := set8_size w2 w.heap.size y0 y1 0 0 0 0 0 0
      change Code.wp _ _ _ _ (set8 w2 w.heap.size y0 y1 0 0 0 0 0 0)
      generalize set8 w2 w.heap.size y0 y1 0 0 0 0 0 0 = Wm at *
      have hbs2 := hb2.size
      have hGd : G8 Wm.drew w.heap.size y0 y1 0 0 0 0 0 0 := hGm.below ((Below.refl Wm.heap.size Wm).drew) (by omega)
      have hbd := hbm.drew
      clear c0 c1 c2 c3 c4 c5 c6 c7 fz hb2
      obtain ⟨c0, c1, c2, c3, c4, c5, c6, c7, fz⟩ := hGd
      obtain ⟨m0, m1, m2, m3, m4, m5, m6, m7, fzm⟩ := id hGm
      go_region
      all_goals
        have hGs := hGm.set8 y0 y1 0 0 0 0 0 0
        have hss := set8_size Wm w.heap.size y0 y1 0 0 0 0 0 0
        have hGf : G8 (set8 Wm w.heap.size y0 y1 0 0 0 0 0 0).drew w.heap.size y0 y1 0 0 0 0 0 0 := hGs.below ((Below.refl (set8 Wm w.heap.size y0 y1 0 0 0 0 0 0).heap.size _).drew) (by omega)
        have hbf := (set8_below hbm (Nat.le_refl w.heap.size) y0 y1 0 0 0 0 0 0).drew
        change Exit.then _ _ _ _ (World.drew (set8 Wm w.heap.size y0 y1 0 0 0 0 0 0))
        generalize (set8 Wm w.heap.size y0 y1 0 0 0 0 0 0).drew = Wf at *
        clear hGs hss
        go_wp2_with fail
        refine bodyPost_ret (res_tmp_cell_tmp rfl _ _ _ w.heap.size rfl _ (loadVar_groups hGf)) rfl ?_
        exact ⟨by rw [HR2.out]; show _ = Ending.returned (.tuple #[.int .i8 4, P.hostV (o.map fun x => [x.1, x.2, 0, 0, 0, 0, 0, 0]), .bool (o.map fun x => [x.1, x.2, 0, 0, 0, 0, 0, 0]).isSome]); rw [HV.out, HS.out]; rfl, hbf⟩
end Go.Proofs.YtbejnnkdgcelmaaGreatDoor
