/- GateTells walked. -/
import Derived.Test.YtfplkjnnnbknoaaRef
set_option linter.unusedSimpArgs false
set_option linter.unusedVariables false
namespace Go.Proofs.Ytfplkjnnnbknoaa
open Go.RowKit Go.Proofs.Ytfplkjnnnbknoaa.Kind

theorem cutR_ex (cap : Int) (l : List Lt) (cl : Bool) : ∃ er cap2 L cl2, CutR cap l cl er cap2 L cl2 := by
  cases cl
  · exact ⟨0, cap, l, true, .inr ⟨rfl, rfl, rfl, rfl, rfl⟩⟩
  · exact ⟨52, 0, [], false, .inl ⟨rfl, rfl, rfl, rfl, rfl⟩⟩
theorem enterR_ex (cap : Int) (l : List Lt) (cl : Bool) : ∃ er cap2 L cl2, EnterR cap l cl er cap2 L cl2 := by
  cases cl
  · by_cases h : cap ≤ (l.length : Int)
    · exact ⟨50, 0, [], false, .inr (.inl ⟨rfl, h, rfl, rfl, rfl, rfl⟩)⟩
    · exact ⟨0, cap, l ++ [Lt.zero], false, .inr (.inr ⟨rfl, by omega, rfl, rfl, rfl, rfl⟩)⟩
  · exact ⟨52, 0, [], false, .inl ⟨rfl, rfl, rfl, rfl, rfl⟩⟩
theorem leaveR_ex (cap : Int) (l : List Lt) (cl : Bool) : ∃ er cap2 L cl2, LeaveR cap l cl er cap2 L cl2 := by
  by_cases h : l = []
  · exact ⟨51, 0, [], false, .inl ⟨h, rfl, rfl, rfl, rfl⟩⟩
  · exact ⟨0, cap, l.drop 1, cl, .inr ⟨h, rfl, rfl, rfl, rfl⟩⟩
theorem gateR_ex (n : Int) : ∃ er cap, GateR n er cap := by
  by_cases h : n < 1
  · exact ⟨2, 0, .inl ⟨h, rfl, rfl⟩⟩
  · by_cases h2 : 64 < n
    · exact ⟨2, 0, .inr (.inl ⟨h2, rfl, rfl⟩)⟩
    · exact ⟨0, n, .inr (.inr ⟨by omega, by omega, rfl, rfl⟩)⟩
theorem CutR.len {cap : Int} {l : List Lt} {cl : Bool} {er cap2 : Int} {L : List Lt} {cl2 : Bool} (h : CutR cap l cl er cap2 L cl2) : L.length ≤ l.length := by
  rcases h with ⟨_, _, _, rfl, _⟩ | ⟨_, _, _, rfl, _⟩ <;> simp
theorem EnterR.len {cap : Int} {l : List Lt} {cl : Bool} {er cap2 : Int} {L : List Lt} {cl2 : Bool} (h : EnterR cap l cl er cap2 L cl2) : L.length ≤ l.length + 1 := by
  rcases h with ⟨_, _, _, rfl, _⟩ | ⟨_, _, _, _, rfl, _⟩ | ⟨_, _, _, _, rfl, _⟩ <;> simp
theorem LeaveR.len {cap : Int} {l : List Lt} {cl : Bool} {er cap2 : Int} {L : List Lt} {cl2 : Bool} (h : LeaveR cap l cl er cap2 L cl2) : L.length ≤ l.length := by
  rcases h with ⟨_, _, _, rfl, _⟩ | ⟨_, _, _, rfl, _⟩ <;> simp

/-- The duct that came in, and two variables. -/
structure Tri (w : World) (A B : Nat) (cap : Int) (a : Option Addr) (n c : Nat) (cl : Bool) (W : World) : Prop where
  d : W.heap[w.heap.size]? = some (.cells #[.int .i64 cap, .slice a n c, .bool cl] 24 (0, 0))
  x : ∃ x y z, W.heap[A]? = some (.cells #[x, y, z] 24 (0, 0))
  y : ∃ x y z, W.heap[B]? = some (.cells #[x, y, z] 24 (0, 0))
  b : Below w.heap.size w W
  da : w.heap.size < A
  ab : A < B
section
variable {w W W' : World} {A B : Nat} {cap : Int} {a : Option Addr} {n c : Nat} {cl : Bool}
theorem Tri.below (h : Tri w A B cap a n c cl W) (hb : Below W.heap.size W W') : Tri w A B cap a n c cl W' :=
  ⟨(hb.block _ (lt_of_block h.d)).trans h.d, by obtain ⟨x, y, z, e⟩ := h.x; exact ⟨x, y, z, (hb.block _ (lt_of_block e)).trans e⟩, by obtain ⟨x, y, z, e⟩ := h.y; exact ⟨x, y, z, (hb.block _ (lt_of_block e)).trans e⟩, h.b.trans (hb.mono h.b.size), h.da, h.ab⟩
theorem Tri.setA (h : Tri w A B cap a n c cl W) (x y z : Value) : Tri w A B cap a n c cl (set3 W A x y z) ∧ (set3 W A x y z).heap[A]? = some (.cells #[x, y, z] 24 (0, 0)) := by
  have h1 := h.da
  have h2 := h.ab
  obtain ⟨x0, y0, z0, e⟩ := h.x
  refine ⟨⟨(set3_other _ _ _ _ _ _ (by omega)).trans h.d, ⟨x, y, z, set3_at e _ _ _⟩, ?_, set3_below h.b (by omega) _ _ _, h1, h2⟩, set3_at e _ _ _⟩
  obtain ⟨x1, y1, z1, e1⟩ := h.y
  exact ⟨x1, y1, z1, (set3_other _ _ _ _ _ _ (by omega)).trans e1⟩
theorem Tri.setB (h : Tri w A B cap a n c cl W) (x y z : Value) : Tri w A B cap a n c cl (set3 W B x y z) ∧ (set3 W B x y z).heap[B]? = some (.cells #[x, y, z] 24 (0, 0)) := by
  have h1 := h.da
  have h2 := h.ab
  obtain ⟨x0, y0, z0, e⟩ := h.y
  refine ⟨⟨(set3_other _ _ _ _ _ _ (by omega)).trans h.d, ?_, ⟨x, y, z, set3_at e _ _ _⟩, set3_below h.b (by omega) _ _ _, h1, h2⟩, set3_at e _ _ _⟩
  obtain ⟨x1, y1, z1, e1⟩ := h.x
  exact ⟨x1, y1, z1, (set3_other _ _ _ _ _ _ (by omega)).trans e1⟩
theorem Tri.ltA (h : Tri w A B cap a n c cl W) : A < W.heap.size := by obtain ⟨x, y, z, e⟩ := h.x; exact lt_of_block e
theorem Tri.ltB (h : Tri w A B cap a n c cl W) : B < W.heap.size := by obtain ⟨x, y, z, e⟩ := h.y; exact lt_of_block e
end
theorem row_bare {α : Type} {K : Kind Try.prog α} {w w' : World} {a : Option Addr} {c : Nat} (h : K.RowC w a c []) : K.RowC w' a c [] := ⟨h.1, h.2.1, h.2.2.1, fun h => by simp at h⟩
theorem great1 (cap : Int) (a : Option Addr) (n c : Nat) (cl : Bool) (t : TypeId) (g : Nat) (w : World) (h : w.heap[g]? = some (.cells #[.int .i64 cap, .slice a n c, .bool cl] t (0, 0))) :
    Calls Try.prog 8 #[.slice (some ⟨g, 0, none⟩) 1 1] w fun e w' => e = .returned (.bool (decide (200 < n) || decide (cap < -1099511627776))) ∧ Below w.heap.size w w' := by
  have h1 := rgreat_any [⟨cap, a, n, c, cl⟩] (some ⟨g, 0, none⟩) 1 w (drow1 h)
  simpa [greatD] using h1

set_option maxHeartbeats 16000000 in
set_option maxRecDepth 1000000 in
theorem gatetells_walk (cap n : Int) (cl : Bool) (l : List Lt) (k : List Dv) (a ak : Option Addr) (c ck : Nat) (w : World) (hcap : cap ≤ 9223372036854775807) (hA : LK.RowC w a c l) (hK : DK.RowC w ak ck k) :
    Calls Try.prog 3 #[.agg #[.int .i64 cap, .slice a l.length c, .bool cl], .slice ak k.length ck, .int .i64 n] w fun e w' => e = .returned (.bool true) ∧ Below w.heap.size w w' := by
  have HA := Lib.hid hA
  have HK := Lib.hid hK
  have HWk := Lib.hid (fun w => wakes_any w)
  have hb2 := below2 w (.cells #[.int .i64 cap, .slice a l.length c, .bool cl] 24) (.cells #[.int .i64 cap, .slice a l.length c, .bool cl] 24)
  have hl2 := laid2 w (.cells #[.int .i64 cap, .slice a l.length c, .bool cl] 24) (.cells #[.int .i64 cap, .slice a l.length c, .bool cl] 24)
  have HG1 := Lib.hid (great1 cap a l.length c cl 24 (w.heap.size + 1) _ hl2.2)
  have HB0 := Lib.hid hb2
  have HL0 := Lib.hid hl2.1
  clear hA hK hb2 hl2
  by_cases hg : l.length ≤ 200 ∧ -1099511627776 ≤ cap
  case neg =>
    have hgb : (decide (200 < l.length) || decide (cap < -1099511627776)) = true := by simp; omega
    rw [hgb] at HG1
    clear hg hgb
    go_enter Try.func3, Try.ntmps3
    go_wp2_with fail
    with_reducible refine HG1.out.mono ?_
    rintro e w1 ⟨rfl, hB⟩
    have HB1 := Lib.hid (HB0.out.trans (hB.mono HB0.out.size))
    clear hB
    go_wp2_with fail
    with_reducible refine (HWk.out _).mono ?_
    rintro e w2 ⟨rfl, hB⟩
    have HB2 := Lib.hid (HB1.out.trans (hB.mono HB1.out.size))
    clear hB
    go_wp2_with fail
    go_ret
    exact ⟨rfl, HB2.out⟩
  have hgb : (decide (200 < l.length) || decide (cap < -1099511627776)) = false := by simp; omega
  rw [hgb] at HG1
  obtain ⟨hl200, hcap0⟩ := hg
  clear hgb
  by_cases hgk : greatD k = true
  · have HG2 := Lib.hid (fun w hA => rgreat_any k ak ck w hA)
    rw [hgk] at HG2
    clear hgk
    go_enter Try.func3, Try.ntmps3
    go_wp2_with fail
    with_reducible refine HG1.out.mono ?_
    rintro e w1 ⟨rfl, hB⟩
    have HB1 := Lib.hid (HB0.out.trans (hB.mono HB0.out.size))
    clear hB
    go_wp2_with fail
    with_reducible refine (HG2.out _ (HK.out.below HB1.out)).mono ?_
    rintro e w2 ⟨rfl, hB⟩
    have HB2 := Lib.hid (HB1.out.trans (hB.mono HB1.out.size))
    clear hB
    go_wp2_with fail
    with_reducible refine (HWk.out _).mono ?_
    rintro e w3 ⟨rfl, hB⟩
    have HB3 := Lib.hid (HB2.out.trans (hB.mono HB2.out.size))
    clear hB
    go_wp2_with fail
    go_ret
    exact ⟨rfl, HB3.out⟩
  have HG2 := Lib.hid (fun w hA => rgreat_any k ak ck w hA)
  have hgk : greatD k = false := by simpa using hgk
  have hkS : sumN k ≤ 1000000 := by
    have h1 := greatD_false hgk
    have h2 := sumN_le k (fun d hd => (h1.2 d hd).1)
    omega
  rw [hgk] at HG2
  clear hgk
  obtain ⟨er1, cap1, L1, cl1, hR1⟩ := cutR_ex cap l cl
  obtain ⟨er2, cap2, hR2⟩ := gateR_ex n
  obtain ⟨er3, cap3, L3, cl3, hR3⟩ := enterR_ex cap l cl
  obtain ⟨er4, cap4, L4, cl4, hR4⟩ := leaveR_ex cap l cl
  have hn1 := hR1.len
  have hn3 := hR3.len
  have hn4 := hR4.len
  have HR1 := Lib.hid hR1
  have HR2 := Lib.hid hR2
  have HR3 := Lib.hid hR3
  have HR4 := Lib.hid hR4
  clear hR1 hR2 hR3 hR4
  go_enter Try.func3, Try.ntmps3
  go_wp2_with fail
  with_reducible refine HG1.out.mono ?_
  rintro e w1 ⟨rfl, hB⟩
  have HB1 := Lib.hid (HB0.out.trans (hB.mono HB0.out.size))
  have HD1 := Lib.hid ((hB.block _ (by simp; try omega)).trans HL0.out)
  clear hB HG1 HB0 HL0
  go_wp2_with fail
  with_reducible refine (HG2.out _ (HK.out.below HB1.out)).mono ?_
  rintro e w2 ⟨rfl, hB⟩
  have HB2 := Lib.hid (HB1.out.trans (hB.mono HB1.out.size))
  have hD2 := (hB.block _ (lt_of_block HD1.out)).trans HD1.out
  have HD2 := Lib.hid hD2
  obtain ⟨⟨p0, p1, p2⟩, p3, p4, p5⟩ := box3 hD2
  clear hB HG2 HB1 HD1 hD2
  have HC := Lib.hid (cut_any cap cl l er1 cap1 L1 cl1 HR1.out (by omega) hcap a c w2 (HA.out.below HB2.out))
  go_wp2_with fail
  with_reducible refine HC.out.mono ?_
  rintro e w3 ⟨a3, c3, rfl, hL, hB⟩
  have hbX := hB.alloc hB.size (.cells #[.int .i64 cap1, .slice a3 L1.length c3, .bool cl1] 24)
  have HD4 := Lib.hid ((hbX.block _ (lt_of_block HD2.out)).trans HD2.out)
  have HB4 := Lib.hid (HB2.out.trans (hbX.mono HB2.out.size))
  have HX4 := Lib.hid (laid1 w3 (.cells #[.int .i64 cap1, .slice a3 L1.length c3, .bool cl1] 24))
  have HL4 := Lib.hid (hL.below (below1 w3 (.cells #[.int .i64 cap1, .slice a3 L1.length c3, .bool cl1] 24))).row
  have hAlt : w.heap.size < w3.heap.size := by have := lt_of_block HD2.out; have := hB.size; omega
  clear hL hB hbX HC p0 p1 p2 p3 p4 p5
  obtain ⟨⟨p0, p1, p2⟩, p3, p4, p5⟩ := box3 HD4.out
  go_wp2_with fail
  have hs3 : (w3.alloc (.cells #[.int .i64 cap1, .slice a3 L1.length c3, .bool cl1] 24)).heap.size = w3.heap.size + 1 := by simp
  generalize w3.alloc (.cells #[.int .i64 cap1, .slice a3 L1.length c3, .bool cl1] 24) = W4 at *
  have HC := Lib.hid (rcut_any cap cl l er1 cap1 L1 cl1 HR1.out a c W4 (HA.out.below HB4.out))
  with_reducible refine HC.out.mono ?_
  rintro e w5 ⟨a5, c5, rfl, hL, hB⟩
  have hbX := hB.alloc hB.size (.cells #[.int .i64 cap1, .slice a5 L1.length c5, .bool cl1] 24)
  have hD6 := (hbX.block _ (lt_of_block HD4.out)).trans HD4.out
  have hX6 := (hbX.block _ (lt_of_block HX4.out)).trans HX4.out
  have hY6 := laid1 w5 (.cells #[.int .i64 cap1, .slice a5 L1.length c5, .bool cl1] 24)
  have HLA := Lib.hid (HL4.out.below hbX)
  have HLB := Lib.hid (hL.below (below1 w5 (.cells #[.int .i64 cap1, .slice a5 L1.length c5, .bool cl1] 24)))
  have HT := Lib.hid (show Tri w w3.heap.size w5.heap.size cap a l.length c cl _ from ⟨hD6, ⟨_, _, _, hX6⟩, ⟨_, _, _, hY6⟩, HB4.out.trans (hbX.mono HB4.out.size), hAlt, by have := hB.size; omega⟩)
  have HX6 := Lib.hid hX6
  have HY6 := Lib.hid hY6
  clear hD6 hX6 hY6 hL hB hbX HC p0 p1 p2 p3 p4 p5
  obtain ⟨⟨p0, p1, p2⟩, _⟩ := box3 HX6.out
  obtain ⟨⟨q0, q1, q2⟩, _⟩ := box3 HY6.out
  go_wp2_with fail
  generalize w5.alloc (.cells #[.int .i64 cap1, .slice a5 L1.length c5, .bool cl1] 24) = W6 at *
  generalize hAA : w3.heap.size = A at *
  generalize hBB : w5.heap.size = B at *
  have HS := Lib.hid (rsame_eq cap1 cl1 L1 a3 a5 c3 c5 W6 (by omega) HLA.out HLB.out)
  with_reducible refine HS.out.mono ?_
  rintro e v1 ⟨rfl, hB⟩
  have HT1 := Lib.hid (HT.out.below hB)
  clear HS HT hB HD2 HB2 HD4 HB4 HX4 HL4 HX6 HY6 HLA HLB p0 p1 p2 q0 q1 q2 hs3
  -- step 1
  obtain ⟨⟨p0, p1, p2⟩, p3, p4, p5⟩ := box3 HT1.out.d
  have HC := Lib.hid (gate_any n er2 cap2 HR2.out v1)
  go_wp2_with fail
  with_reducible refine HC.out.mono ?_
  rintro e u1 ⟨a1x, c1x, rfl, hL, hB⟩
  have HT := Lib.hid (HT1.out.below hB)
  obtain ⟨x0, x1, x2, hx⟩ := HT.out.x
  obtain ⟨⟨q0, q1, q2⟩, q3, q4, q5⟩ := box3 hx
  have HTA := Lib.hid (HT.out.setA (.int .i64 cap2) (.slice a1x 0 c1x) (.bool false))
  have hAv := HT1.out.ltA
  have hBv := HT1.out.ltB
  have HLA := Lib.hid (set3_loose (b := A) hL hAv (.int .i64 cap2) (.slice a1x 0 c1x) (.bool false))
  clear hL hB HC HT p0 p1 p2 p3 p4 p5
  generalize hU : set3 u1 A (.int .i64 cap2) (.slice a1x 0 c1x) (.bool false) = U1 at *
  unfold set3 at hU
  obtain ⟨⟨p0, p1, p2⟩, p3, p4, p5⟩ := box3 HTA.out.1.d
  have HC := Lib.hid (rgate_any n er2 cap2 HR2.out U1)
  go_wp2_with fail
  clear hU hx q0 q1 q2 q3 q4 q5
  with_reducible refine HC.out.mono ?_
  rintro e y1 ⟨rfl, hB⟩
  have HT := Lib.hid (HTA.out.1.below hB)
  obtain ⟨x0, x1, x2, hx⟩ := HT.out.y
  obtain ⟨⟨q0, q1, q2⟩, q3, q4, q5⟩ := box3 hx
  have HTB := Lib.hid (HT.out.setB (.int .i64 cap2) (.slice none 0 0) (.bool false))
  have HXA := Lib.hid ((set3_other _ _ _ _ _ _ (by have := HT.out.ab; omega)).trans ((hB.block _ (lt_of_block HTA.out.2)).trans HTA.out.2) : (set3 y1 B (.int .i64 cap2) (.slice none 0 0) (.bool false)).heap[A]? = _)
  have HLA2 := Lib.hid (set3_loose (HLA.out.below hB) hBv (.int .i64 cap2) (.slice none 0 0) (.bool false)).row
  have HLB2 := Lib.hid (row_none (K := LK) (set3 y1 B (.int .i64 cap2) (.slice none 0 0) (.bool false)))
  clear hB HC HT HTA HLA p0 p1 p2 p3 p4 p5
  generalize hU : set3 y1 B (.int .i64 cap2) (.slice none 0 0) (.bool false) = Y1 at *
  unfold set3 at hU
  obtain ⟨⟨p0, p1, p2⟩, _⟩ := box3 HXA.out
  obtain ⟨⟨s0, s1, s2⟩, _⟩ := box3 HTB.out.2
  have HS := Lib.hid (rsame_eq cap2 false [] a1x none c1x 0 Y1 (by simp) HLA2.out HLB2.out)
  rw [List.length_nil] at *
  go_wp2_with fail
  with_reducible refine HS.out.mono ?_
  rintro e v2 ⟨rfl, hB⟩
  have HT2 := Lib.hid (HTB.out.1.below hB)
  clear hB HS hU HXA HLA2 HLB2 HTB p0 p1 p2 s0 s1 s2 hx q0 q1 q2 q3 q4 q5 hAv hBv HT1
  -- step 2
  obtain ⟨⟨p0, p1, p2⟩, p3, p4, p5⟩ := box3 HT2.out.d
  have HC := Lib.hid (enter_any cap cl l er3 cap3 L3 cl3 HR3.out (by omega) hcap a c v2 (HA.out.below HT2.out.b))
  go_wp2_with fail
  with_reducible refine HC.out.mono ?_
  rintro e u2 ⟨a2x, c2x, rfl, hL, hB⟩
  have HT := Lib.hid (HT2.out.below hB)
  obtain ⟨x0, x1, x2, hx⟩ := HT.out.x
  obtain ⟨⟨q0, q1, q2⟩, q3, q4, q5⟩ := box3 hx
  have HTA := Lib.hid (HT.out.setA (.int .i64 cap3) (.slice a2x L3.length c2x) (.bool cl3))
  have hAv := HT2.out.ltA
  have hBv := HT2.out.ltB
  have HLA := Lib.hid (set3_loose (b := A) hL hAv (.int .i64 cap3) (.slice a2x L3.length c2x) (.bool cl3))
  clear hL hB HC HT p0 p1 p2 p3 p4 p5
  generalize hU : set3 u2 A (.int .i64 cap3) (.slice a2x L3.length c2x) (.bool cl3) = U2 at *
  unfold set3 at hU
  obtain ⟨⟨p0, p1, p2⟩, p3, p4, p5⟩ := box3 HTA.out.1.d
  have HC := Lib.hid (renter_any cap cl l er3 cap3 L3 cl3 HR3.out (by omega) a c U2 (HA.out.below HTA.out.1.b))
  go_wp2_with fail
  clear hU hx q0 q1 q2 q3 q4 q5
  with_reducible refine HC.out.mono ?_
  rintro e y2 ⟨a2y, c2y, rfl, hL, hB⟩
  have HT := Lib.hid (HTA.out.1.below hB)
  obtain ⟨x0, x1, x2, hx⟩ := HT.out.y
  obtain ⟨⟨q0, q1, q2⟩, q3, q4, q5⟩ := box3 hx
  have HTB := Lib.hid (HT.out.setB (.int .i64 cap3) (.slice a2y L3.length c2y) (.bool cl3))
  have HXA := Lib.hid ((set3_other _ _ _ _ _ _ (by have := HT.out.ab; omega)).trans ((hB.block _ (lt_of_block HTA.out.2)).trans HTA.out.2) : (set3 y2 B (.int .i64 cap3) (.slice a2y L3.length c2y) (.bool cl3)).heap[A]? = _)
  have HLA2 := Lib.hid (set3_loose (HLA.out.below hB) hBv (.int .i64 cap3) (.slice a2y L3.length c2y) (.bool cl3)).row
  have HLB2 := Lib.hid ((set3_far hL HTA.out.1.ltB (.int .i64 cap3) (.slice a2y L3.length c2y) (.bool cl3)).row)
  clear hB HC HT HTA HLA p0 p1 p2 p3 p4 p5
  generalize hU : set3 y2 B (.int .i64 cap3) (.slice a2y L3.length c2y) (.bool cl3) = Y2 at *
  unfold set3 at hU
  obtain ⟨⟨p0, p1, p2⟩, _⟩ := box3 HXA.out
  obtain ⟨⟨s0, s1, s2⟩, _⟩ := box3 HTB.out.2
  have HS := Lib.hid (rsame_eq cap3 cl3 L3 a2x a2y c2x c2y Y2 (by omega) HLA2.out HLB2.out)
  go_wp2_with fail
  with_reducible refine HS.out.mono ?_
  rintro e v3 ⟨rfl, hB⟩
  have HT3 := Lib.hid (HTB.out.1.below hB)
  clear hB HS hU HXA HLA2 HLB2 HTB p0 p1 p2 s0 s1 s2 hx q0 q1 q2 q3 q4 q5 hAv hBv HT2
  -- step 3
  obtain ⟨⟨p0, p1, p2⟩, p3, p4, p5⟩ := box3 HT3.out.d
  have HC := Lib.hid (leave_any cap cl l er4 cap4 L4 cl4 HR4.out (by omega) hcap a c v3 (HA.out.below HT3.out.b))
  go_wp2_with fail
  with_reducible refine HC.out.mono ?_
  rintro e u3 ⟨a3x, c3x, rfl, hL, hB⟩
  have HT := Lib.hid (HT3.out.below hB)
  obtain ⟨x0, x1, x2, hx⟩ := HT.out.x
  obtain ⟨⟨q0, q1, q2⟩, q3, q4, q5⟩ := box3 hx
  have HTA := Lib.hid (HT.out.setA (.int .i64 cap4) (.slice a3x L4.length c3x) (.bool cl4))
  have hAv := HT3.out.ltA
  have hBv := HT3.out.ltB
  have HLA := Lib.hid (set3_loose (b := A) hL hAv (.int .i64 cap4) (.slice a3x L4.length c3x) (.bool cl4))
  clear hL hB HC HT p0 p1 p2 p3 p4 p5
  generalize hU : set3 u3 A (.int .i64 cap4) (.slice a3x L4.length c3x) (.bool cl4) = U3 at *
  unfold set3 at hU
  obtain ⟨⟨p0, p1, p2⟩, p3, p4, p5⟩ := box3 HTA.out.1.d
  have HC := Lib.hid (rleave_any cap cl l er4 cap4 L4 cl4 HR4.out (by omega) a c U3 (HA.out.below HTA.out.1.b))
  go_wp2_with fail
  clear hU hx q0 q1 q2 q3 q4 q5
  with_reducible refine HC.out.mono ?_
  rintro e y3 ⟨a3y, c3y, rfl, hL, hB⟩
  have HT := Lib.hid (HTA.out.1.below hB)
  obtain ⟨x0, x1, x2, hx⟩ := HT.out.y
  obtain ⟨⟨q0, q1, q2⟩, q3, q4, q5⟩ := box3 hx
  have HTB := Lib.hid (HT.out.setB (.int .i64 cap4) (.slice a3y L4.length c3y) (.bool cl4))
  have HXA := Lib.hid ((set3_other _ _ _ _ _ _ (by have := HT.out.ab; omega)).trans ((hB.block _ (lt_of_block HTA.out.2)).trans HTA.out.2) : (set3 y3 B (.int .i64 cap4) (.slice a3y L4.length c3y) (.bool cl4)).heap[A]? = _)
  have HLA2 := Lib.hid (set3_loose (HLA.out.below hB) hBv (.int .i64 cap4) (.slice a3y L4.length c3y) (.bool cl4)).row
  have HLB2 := Lib.hid ((set3_far hL HTA.out.1.ltB (.int .i64 cap4) (.slice a3y L4.length c3y) (.bool cl4)).row)
  clear hB HC HT HTA HLA p0 p1 p2 p3 p4 p5
  generalize hU : set3 y3 B (.int .i64 cap4) (.slice a3y L4.length c3y) (.bool cl4) = Y3 at *
  unfold set3 at hU
  obtain ⟨⟨p0, p1, p2⟩, _⟩ := box3 HXA.out
  obtain ⟨⟨s0, s1, s2⟩, _⟩ := box3 HTB.out.2
  obtain ⟨⟨d0, d1, d2⟩, _⟩ := box3 HTB.out.1.d
  go_upto_region 17 with fail
  clear hU hx q0 q1 q2 q3 q4 q5
  have HBY := Lib.hid HTB.out.1.b
  have HSB := Lib.hid (show ∀ W', Below Y3.heap.size Y3 W' → ((W'.cell? ⟨w.heap.size, 0, none⟩ = some (.int .i64 cap) ∧ W'.cell? ⟨w.heap.size, 1, none⟩ = some (.slice a l.length c) ∧ W'.cell? ⟨w.heap.size, 2, none⟩ = some (.bool cl)) ∧ (W'.cell? ⟨A, 0, none⟩ = some (.int .i64 cap4) ∧ W'.cell? ⟨A, 1, none⟩ = some (.slice a3x L4.length c3x) ∧ W'.cell? ⟨A, 2, none⟩ = some (.bool cl4)) ∧ (W'.cell? ⟨B, 0, none⟩ = some (.int .i64 cap4) ∧ W'.cell? ⟨B, 1, none⟩ = some (.slice a3y L4.length c3y) ∧ W'.cell? ⟨B, 2, none⟩ = some (.bool cl4))) ∧ Below Y3.heap.size Y3 W' from fun W' h => ⟨⟨(box3 ((h.block _ (lt_of_block HTB.out.1.d)).trans HTB.out.1.d)).1, (box3 ((h.block _ (lt_of_block HXA.out)).trans HXA.out)).1, (box3 ((h.block _ (lt_of_block HTB.out.2)).trans HTB.out.2)).1⟩, h⟩)
  have HS := Lib.hid (fun W (h : Below Y3.heap.size Y3 W) => rsame_eq cap4 cl4 L4 a3x a3y c3x c3y W (by omega) (HLA2.out.below h) (HLB2.out.below h))
  have HSt := Lib.hid (fun a c W0 W (h : LK.RowC W0 a c []) => rsame_eq 0 false [] a none c 0 W (by simp) (row_bare h) (row_none W))
  rw [List.length_nil] at HSt
  have HI := Lib.hid (fun W (h : Below Y3.heap.size Y3 W) => iscut_any k ak ck W (HK.out.below (HBY.out.trans (h.mono HBY.out.size))))
  have HRI := Lib.hid (fun W (h : Below Y3.heap.size Y3 W) => riscut_any k ak ck W (HK.out.below (HBY.out.trans (h.mono HBY.out.size))))
  have HN := Lib.hid (fun W (h : Below Y3.heap.size Y3 W) => inside_any k ak ck W (HK.out.below (HBY.out.trans (h.mono HBY.out.size))) hkS)
  have HRN := Lib.hid (fun W (h : Below Y3.heap.size Y3 W) => rinside_any k ak ck W (HK.out.below (HBY.out.trans (h.mono HBY.out.size))) hkS)
  have HF := Lib.hid (fun W => free_any cap a l.length c cl W hcap)
  have HRF := Lib.hid (fun W => rfree_any cap a l.length c cl W hcap hcap0 (by omega))
  have HTk := Lib.hid (fun W => token_any W)
  have HRT := Lib.hid (fun W => rtoken_any W)
  clear HTB HXA HLA2 HLB2 HA HK HR1 HR2 HR3 HR4 hkS hcap hcap0 hl200 hn1 hn3 hn4 HT3 hAv hBv hAlt
  generalize cutB k = bk at *
  generalize sumN k = sk at *
  generalize roomB cap l.length cl = rk at *
  go_region_held3 (fun W' => ((W'.cell? ⟨w.heap.size, 0, none⟩ = some (.int .i64 cap) ∧ W'.cell? ⟨w.heap.size, 1, none⟩ = some (.slice a l.length c) ∧ W'.cell? ⟨w.heap.size, 2, none⟩ = some (.bool cl)) ∧ (W'.cell? ⟨A, 0, none⟩ = some (.int .i64 cap4) ∧ W'.cell? ⟨A, 1, none⟩ = some (.slice a3x L4.length c3x) ∧ W'.cell? ⟨A, 2, none⟩ = some (.bool cl4)) ∧ (W'.cell? ⟨B, 0, none⟩ = some (.int .i64 cap4) ∧ W'.cell? ⟨B, 1, none⟩ = some (.slice a3y L4.length c3y) ∧ W'.cell? ⟨B, 2, none⟩ = some (.bool cl4))) ∧ Below Y3.heap.size Y3 W')
    (first | exact HSB.out _ (kept_call (by assumption) hbC) | exact HSB.out _ (Below.refl _ _).drew)
    (first
      | (go_at_call 12; first | (with_reducible refine (HS.out _ (kept_call (by assumption) (Below.refl _ _))).mono ?_) | (with_reducible refine (HSt.out aC cC _ _ hTC).mono ?_)
         rintro e wC ⟨rfl, hbC⟩)
      | (go_at_call 19; with_reducible refine (HI.out _ (kept_call (by assumption) (Below.refl _ _))).mono ?_; rintro e wC ⟨rfl, hbC⟩)
      | (go_at_call 20; with_reducible refine (HRI.out _ (kept_call (by assumption) (Below.refl _ _))).mono ?_; rintro e wC ⟨rfl, hbC⟩)
      | (go_at_call 21; with_reducible refine (HN.out _ (kept_call (by assumption) (Below.refl _ _))).mono ?_; rintro e wC ⟨rfl, hbC⟩)
      | (go_at_call 22; with_reducible refine (HRN.out _ (kept_call (by assumption) (Below.refl _ _))).mono ?_; rintro e wC ⟨rfl, hbC⟩)
      | (go_at_call 23; with_reducible refine (HF.out _).mono ?_; rintro e wC ⟨rfl, hbC⟩)
      | (go_at_call 24; with_reducible refine (HRF.out _).mono ?_; rintro e wC ⟨rfl, hbC⟩)
      | (go_at_call 25; with_reducible refine (HTk.out _).mono ?_; rintro e wC ⟨aC, cC, rfl, hLC, hbC⟩; have hTC := hLC.row)
      | (go_at_call 26; with_reducible refine (HRT.out _).mono ?_; rintro e wC ⟨rfl, hbC⟩)
      | (go_at_call 9; with_reducible refine (HWk.out _).mono ?_; rintro e wC ⟨rfl, hbC⟩))
  all_goals
    have hfin := HBY.out.trans ((kept_call (by assumption) (Below.refl _ wC) : Below Y3.heap.size Y3 wC).mono HBY.out.size)
    go_wp2_with fail
    go_ret
    exact ⟨rfl, hfin⟩
end Go.Proofs.Ytfplkjnnnbknoaa
