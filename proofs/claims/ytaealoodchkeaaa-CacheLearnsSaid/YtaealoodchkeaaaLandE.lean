/- The landed package cache: an entry put into rows of one's own: slices.Insert. -/
import Derived.Test.YtaealoodchkeaaaLandD
import Derived.Test.YtaealoodchkeaaaInsert
import Derived.Deep.RegionLaw
import Derived.Laws.Externs
set_option linter.unusedSimpArgs false
set_option linter.unusedVariables false
namespace Go.Proofs.Ytaealoodchkeaaa
open R3 Go.RowKit Go.Proofs.Ytaealoodchkeaaa.Kind

theorem box_row {w : World} {g : Nat} {x : Kn} {t : TypeId} (h : w.heap[g]? = some (.cells #[.string x.name, .string x.row, .int .i64 x.e, .int .i64 x.until_] t (0, 0))) : KK.RowC w (some ⟨g, 0, none⟩) 1 [x] :=
  ⟨by simp, by unfold maxLen; omega, (fun e => by cases e), fun _ => ⟨g, 0, rfl, lt_of_block h, at_of h (by show 1 * 4 ≤ 4; omega) rfl⟩⟩

set_option maxHeartbeats 8000000 in
set_option maxRecDepth 1000000 in
theorem insert_end (l : List Kn) (x : Kn) (L : List Kn) (hL : L = l ++ [x]) (a : Option Addr) (c vb base : Nat) (w : World) (t : TypeId) (hO : KK.Loose w base a c l) (hlen : l.length ≤ 2000) (hv : w.heap[vb]? = some (.cells #[.string x.name, .string x.row, .int .i64 x.e, .int .i64 x.until_] t (0, 0))) (hbase : base ≤ w.heap.size) :
    Calls Try.prog 42 #[.slice a l.length c, .int .i64 l.length, .slice (some ⟨vb, 0, none⟩) 1 1] w fun e w' => ∃ a' c', e = .returned (.slice a' L.length c') ∧ KK.Loose w' base a' c' L ∧ Below base w w' := by
  have HO := Lib.hid hO
  have HV := Lib.hid (box_row hv)
  have HL := Lib.hid hL
  have hc1 : (l.length : Int) ≤ (c : Int) := by have := hO.1; omega
  have hc2 : (c : Int) ≤ 9223372036854775807 := by have := hO.2.1; unfold maxLen at this; omega
  have hn := hO.2.2.1
  clear hO hv hL
  go_enter Try.func42, Try.ntmps42
  go_wp2_with (at_builtin; refine wpList_append_loose KK rfl _ _ rfl base a l.length c rfl l rfl HO.out (some ⟨vb, 0, none⟩) 1 1 rfl [x] rfl (by simp) HV.out (by simp; omega) hbase L HL.out ?_; intro a1 c1 w1 hO1 hG1 _; have HO1 := Lib.hid hO1; have HG1 := Lib.hid hG1; clear hO1 hG1)
  all_goals go_ret
  all_goals (obtain ⟨row, hg, hr⟩ := HG1.out; exact ⟨a1, c1, rfl, HO1.out, (Below.refl _ w).grown hg hbase (fun j e => (hr j e).1)⟩)

theorem below_of_grown {w w' : World} {base g : Nat} (h : w.grownBy w' (some g)) (hb : base ≤ w.heap.size) (hg : base ≤ g) : Below base w w' := (Below.refl _ w).grown h hb (fun j e => by injection e with e; omega)
set_option maxHeartbeats 8000000 in
set_option maxRecDepth 1000000 in
theorem insert_room (l : List Kn) (x : Kn) (i : Nat) (L : List Kn) (hL : L = l.take i ++ [x] ++ l.drop i) (hi : i < l.length) (c g o vb base : Nat) (w : World) (t : TypeId) (hP : KK.Plot w base g o c l) (hcm : c ≤ maxLen) (hroom : l.length + 1 ≤ c) (hv : w.heap[vb]? = some (.cells #[.string x.name, .string x.row, .int .i64 x.e, .int .i64 x.until_] t (0, 0))) (hne : vb ≠ g) (hbase : base ≤ w.heap.size) :
    Calls Try.prog 42 #[.slice (some ⟨g, o, none⟩) l.length c, .int .i64 i, .slice (some ⟨vb, 0, none⟩) 1 1] w fun e w' => ∃ a' c', e = .returned (.slice a' L.length c') ∧ KK.Loose w' base a' c' L ∧ Below base w w' := by
  have HP := Lib.hid hP
  have HV := Lib.hid hv
  have HLl := Lib.hid (show L.length = l.length + 1 by rw [hL]; simp; omega)
  have hgb := hP.2.1
  have hcl : (c : Int) ≤ 9223372036854775807 := by unfold maxLen at hcm; omega
  have hov : ∀ (q lb cb : Nat), (callFunc 44 #[.slice (some ⟨vb, 0, none⟩) 1 1, .slice (some ⟨g, q, none⟩) lb cb]).run Try.prog w = .ok (.value (.bool false)) w := fun q lb cb => by
    have h : (Extern.SlicesOverlaps.overlaps #[24, 24] #[4] #[.slice (some ⟨vb, 0, none⟩) 1 1, .slice (some ⟨g, q, none⟩) lb cb]).run Try.prog w = .ok (.bool false) w := run_overlaps_plot (K := KK) hP (by omega) 4 vb _ t hv hne q 1 1 lb cb
    rw [run_callFunc_extern Try.func44 (by kernel_rfl) (by kernel_rfl) (by kernel_rfl) (e := Extern.SlicesOverlaps.overlaps #[24, 24] #[4]) (by kernel_rfl), h]
    rfl
  have hw1 : IntKind.i64.wrap ((i : Int) + 1) = (i : Int) + 1 := by rw [IntKind.wrap_i64]; omega
  have hw2 : IntKind.i64.wrap ((l.length : Int) + 1) = (l.length : Int) + 1 := by rw [IntKind.wrap_i64]; omega
  have hz2 : ¬ ((i : Int) = (l.length : Int)) := by omega
  have hb1 : (0 : Int) ≤ (i : Int) + 1 := by omega
  have hb2 : (0 : Int) ≤ (l.length : Int) + 1 := by omega
  have htn : ((i : Int) + 1).toNat = i + 1 := by omega
  have htl : ((l.length : Int) + 1).toNat = l.length + 1 := by omega
  have hn1 : ¬ (c = i + 1) := by omega
  have hn2 : ¬ (c = i) := by omega
  have hb3 : (i : Int) ≤ (l.length : Int) + 1 := by omega
  have hb4 : (l.length : Int) + 1 ≤ (c : Int) := by omega
  have hb5 : ¬ (c : Int) < (l.length : Int) + 1 := by omega
  have hb6 : (i : Int) + 1 ≤ (l.length : Int) + 1 := by omega
  have hb7 : (i : Int) ≤ (l.length : Int) := by omega
  have hin : i ≤ l.length := by omega
  -- the row behind i, where it lies
  have hsrc := (hP.row hcm).drop (a' := some ⟨g, o + i * 4, none⟩) i hin (by rw [if_neg hn2]; simp [add_at', KK])
  have HS := Lib.hid hsrc
  obtain ⟨L1, hL1⟩ : ∃ L1, L1 = l.take (i + 1) ++ l.drop i ++ l.drop (i + 1 + (l.drop i).length) := ⟨_, rfl⟩
  have hdl : (l.drop i).length = l.length - i := by simp
  have hL1' : L1 = l.take (i + 1) ++ l.drop i := by rw [hL1, show l.drop (i + 1 + (l.drop i).length) = [] from List.drop_eq_nil_of_le (by rw [hdl]; omega), List.append_nil]
  have hL1l : L1.length = l.length + 1 := by rw [hL1']; simp; omega
  have hLL : L = L1.take i ++ [x] ++ L1.drop (i + [x].length) := by
    rw [hL, hL1']
    congr 1
    · congr 1
      rw [List.take_append_of_le_length (by simp; omega), List.take_take]
      congr 1; omega
    · show _ = List.drop (i + 1) _
      rw [List.drop_left' (by simp; omega)]
  have HL1 := Lib.hid hL1
  have HL1l := Lib.hid hL1l
  have HLL := Lib.hid hLL
  have HDL := Lib.hid hdl
  clear hP hv hL hL1 hL1' hL1l hLL hdl hsrc
  go_enter Try.func42, Try.ntmps42
  go_wp2_with (simp only [hov])
  have HPd := Lib.hid (Plot.drew HP.out)
  have HSd := Lib.hid (show KK.RowC w.drew (some ⟨g, o + i * 4, none⟩) (c - i) (l.drop i) from HS.out)
  have HVd := Lib.hid (show w.drew.heap[vb]? = some (.cells #[.string x.name, .string x.row, .int .i64 x.e, .int .i64 x.until_] t (0, 0)) from HV.out)
  have hmin : Nat.min (l.length + 1 - i) (l.length + 1 - (i + 1)) = (l.drop i).length := by rw [HDL.out]; simp only [Nat.min_def]; split <;> omega
  have HMin := Lib.hid hmin
  clear hmin hov
  go_region_law (
    (refine KK.step_copy_kind rfl (.tmp 73) (.tmp 76) rfl base g o c l HPd.out (o + (i + 1) * 4) (l.length + 1 - (i + 1)) (c - (i + 1)) (by simp [Act.eval, Act.put]) (i + 1) rfl (some ⟨g, o + i * 4, none⟩) (l.length + 1 - i) (c - i) (c - i) (by simp [Act.eval, Act.put]) (l.drop i) (by rw [HDL.out]; omega) HMin.out HSd.out (by omega) (by rw [HDL.out]; omega) L1 HL1.out ?_; intro w1 hP1 hG1; have HP1 := Lib.hid hP1; have HG1 := Lib.hid hG1; clear hP1 hG1))
  have hB1 := ((Below.refl base w).drew).grown HG1.out hbase (fun j e => by injection e with e; omega)
  have HV1 := Lib.hid (box_row ((HG1.out.block vb (lt_of_block HVd.out) (fun e => hne (Option.some.inj e))).trans HVd.out))
  have HB1 := Lib.hid hB1
  have hmin : Nat.min 1 (l.length + 1 - i) = [x].length := by show Nat.min 1 _ = 1; simp only [Nat.min_def]; split <;> omega
  have HMin2 := Lib.hid hmin
  clear hB1 hmin HPd HSd HVd HMin HG1 HS HP HV
  obtain ⟨w2, hrun, hP2, hG2⟩ := HP1.out.copied 24 3 rfl (o + i * 4) i (l.length + 1 - i) (c - i) rfl (some ⟨vb, 0, none⟩) 1 1 1 [x] (by simp) HMin2.out HV1.out (by rw [HL1l.out]; omega) (by simp; omega) L HLL.out
  have HP2 := Lib.hid hP2
  have HG2 := Lib.hid hG2
  clear hP2 hG2
  go_wp2_with fail
  go_ret
  exact ⟨some ⟨g, o, none⟩, c, by rw [HLl.out]; rfl, HP2.out.loose hcm, HB1.out.grown HG2.out (Nat.le_trans hbase HB1.out.size) (fun j e => by injection e with e; omega)⟩

set_option maxHeartbeats 8000000 in
set_option maxRecDepth 1000000 in
theorem insert_grow (l : List Kn) (x : Kn) (i : Nat) (L : List Kn) (hL : L = l.take i ++ [x] ++ l.drop i) (hi : i < l.length) (c g o vb base : Nat) (w : World) (t : TypeId) (hP : KK.Plot w base g o c l) (hcm : c ≤ maxLen) (hroom : c < l.length + 1) (hlen : l.length ≤ 2000) (hv : w.heap[vb]? = some (.cells #[.string x.name, .string x.row, .int .i64 x.e, .int .i64 x.until_] t (0, 0))) (hbase : base ≤ w.heap.size) :
    Calls Try.prog 42 #[.slice (some ⟨g, o, none⟩) l.length c, .int .i64 i, .slice (some ⟨vb, 0, none⟩) 1 1] w fun e w' => ∃ a' c', e = .returned (.slice a' L.length c') ∧ KK.Loose w' base a' c' L ∧ Below base w w' := by
  have HP := Lib.hid hP
  have HV := Lib.hid hv
  have HLl := Lib.hid (show L.length = l.length + 1 by rw [hL]; simp; omega)
  have hvlt := lt_of_block hv
  have hgb := hP.2.1
  have hlc := hP.1
  have hcl : (c : Int) ≤ 9223372036854775807 := by unfold maxLen at hcm; omega
  have hw1 : IntKind.i64.wrap ((i : Int) + 1) = (i : Int) + 1 := by rw [IntKind.wrap_i64]; omega
  have hw2 : IntKind.i64.wrap ((l.length : Int) + 1) = (l.length : Int) + 1 := by rw [IntKind.wrap_i64]; omega
  have hw3 : IntKind.i64.wrap ((l.length : Int) + 1 - (i : Int)) = (l.length : Int) + 1 - (i : Int) := by rw [IntKind.wrap_i64]; omega
  have hz2 : ¬ ((i : Int) = (l.length : Int)) := by omega
  have hb1 : (0 : Int) ≤ (i : Int) + 1 := by omega
  have htn : ((i : Int) + 1).toNat = i + 1 := by omega
  have hn2 : ¬ (c = i) := by omega
  have hb5 : (c : Int) < (l.length : Int) + 1 := by omega
  have hb7 : (i : Int) ≤ (l.length : Int) := by omega
  have hb8 : (i : Int) ≤ (c : Int) := by omega
  have hin : i ≤ l.length := by omega
  have hdl : (l.drop i).length = l.length - i := by simp
  have htl : (l.take i).length = i := by simp; omega
  have HTL := Lib.hid htl
  have HDL := Lib.hid hdl
  have hrow := hP.row hcm
  have HAT := Lib.hid (show KK.At w g o (l.take i) from fun j y hy => hP.2.2.2.2 j y (by rw [List.getElem?_take] at hy; split at hy; exact hy; cases hy))
  have HROW := Lib.hid (hrow.drop (a' := some ⟨g, o + i * 4, none⟩) i hin (by rw [if_neg hn2]; simp [add_at', KK]))
  obtain ⟨L1, hL1⟩ : ∃ L1, L1 = (l.take i).take i ++ [x] ++ (l.take i).drop (i + [x].length) := ⟨_, rfl⟩
  have hL1' : L1 = l.take i ++ [x] := by rw [hL1, List.take_take, Nat.min_self, List.drop_eq_nil_of_le (by rw [htl]; simp), List.append_nil]
  have hL1l : L1.length = i + 1 := by rw [hL1']; simp; omega
  have HL1 := Lib.hid hL1
  have HL1l := Lib.hid hL1l
  have e1 : L1.take (i + 1) = L1 := List.take_of_length_le (by omega)
  have e2 : L1.drop (i + 1 + (l.drop i).length) = [] := List.drop_eq_nil_of_le (by omega)
  have HLL := Lib.hid (show L = L1.take (i + 1) ++ l.drop i ++ L1.drop (i + 1 + (l.drop i).length) by rw [e1, e2, List.append_nil, hL, hL1'])
  clear hP hv hL hL1 hL1' hL1l hdl htl hrow e1 e2
  go_enter Try.func42, Try.ntmps42
  go_wp2_with (at_builtin; refine KK.wpList_append_zeros rfl _ _ 3 rfl Try.underlying3 g o i c rfl (l.length + 1 - i) _ (by omega) rfl (l.take i) HTL.out HAT.out (by omega) (by omega) (small_bytes _ (by omega)) (by unfold maxLen; omega) ?_; intro G w1 hP1 hG1 hG2 hB1; rw [show i + (l.length + 1 - i) = l.length + 1 by omega] at hG1 ⊢; have hG3 : (G : Int) ≤ 9223372036854775807 := (by unfold maxLen at hG2; omega); have hG4 : ¬ (G = i) := (by omega); have hG5 : ¬ (G = i + 1) := (by omega); have hG6 : (i : Int) ≤ (l.length : Int) + 1 := (by omega); have hG7 : (i : Int) + 1 ≤ (l.length : Int) + 1 := (by omega); have HV1 := Lib.hid (box_row ((hB1.block vb hvlt).trans HV.out)); have HP1 := Lib.hid hP1; have HB1 := Lib.hid hB1; have HG2 := Lib.hid hG2; clear hP1 hB1 hG2; obtain ⟨w2, hrun, hP2, hG2⟩ := HP1.out.copied 24 3 rfl (i * 4) i (l.length + 1 - i) (G - i) (by simp [KK]) (some ⟨vb, 0, none⟩) 1 1 1 [x] (by simp) (by show Nat.min 1 _ = 1; simp only [Nat.min_def]; split <;> omega) HV1.out (by rw [HTL.out]; exact Nat.le_refl _) (by simp; omega) L1 HL1.out; have HP2 := Lib.hid hP2; have HB2 := Lib.hid (HB1.out.grown hG2 HB1.out.size (fun j e => by injection e with e; omega)); clear hP2 hG2)
  have HPd := Lib.hid (Plot.drew HP2.out)
  have HSd := Lib.hid (show KK.RowC w2.drew (some ⟨g, o + i * 4, none⟩) (c - i) (l.drop i) from HROW.out.below HB2.out.drew)
  have hmin : Nat.min (l.length - i) (l.length + 1 - (i + 1)) = (l.drop i).length := by rw [HDL.out]; simp only [Nat.min_def]; split <;> omega
  have HMin := Lib.hid hmin
  clear hmin hrun
  go_region_law (
    (refine KK.step_copy_kind rfl (.tmp 50) (.tmp 53) rfl w.heap.size w.heap.size 0 G L1 HPd.out ((i + 1) * 4) (l.length + 1 - (i + 1)) (G - (i + 1)) (by simp [Act.eval, Act.put]) (i + 1) (by simp [KK]) (some ⟨g, o + i * 4, none⟩) (l.length - i) (c - i) (c - i) (by simp [Act.eval, Act.put]) (l.drop i) (by rw [HDL.out]; omega) HMin.out HSd.out (by rw [HL1l.out]; exact Nat.le_refl _) (by rw [HDL.out]; omega) L HLL.out ?_; intro w3 hP1 hG1; have HP3 := Lib.hid hP1; have HB3 := Lib.hid ((HB2.out.drew).grown hG1 HB2.out.size (fun j e => by injection e with e; omega)); clear hP1 hG1))
  go_wp2_with fail
  go_ret
  exact ⟨some ⟨w.heap.size, 0, none⟩, G, by rw [HLl.out]; rfl, (HP3.out.mono hbase).loose HG2.out, HB3.out.mono hbase⟩

/-- slices.Insert of one entry, wherever it goes, into a row of one's own. -/
theorem insert_any (l : List Kn) (x : Kn) (i : Nat) (L : List Kn) (hL : L = l.take i ++ [x] ++ l.drop i) (hi : i ≤ l.length) (a : Option Addr) (c vb base : Nat) (w : World) (t : TypeId) (hO : KK.Loose w base a c l) (hlen : l.length ≤ 2000) (hv : w.heap[vb]? = some (.cells #[.string x.name, .string x.row, .int .i64 x.e, .int .i64 x.until_] t (0, 0))) (hne : ∀ ad, a = some ad → 0 < c → ad.block ≠ vb) (hbase : base ≤ w.heap.size) :
    Calls Try.prog 42 #[.slice a l.length c, .int .i64 i, .slice (some ⟨vb, 0, none⟩) 1 1] w fun e w' => ∃ a' c', e = .returned (.slice a' L.length c') ∧ KK.Loose w' base a' c' L ∧ Below base w w' := by
  rcases Nat.lt_or_ge i l.length with h | h
  · have hc := hO.1
    obtain ⟨g, o, rfl, hP⟩ := hO.plot (by omega)
    have hne' : vb ≠ g := fun e => hne _ rfl (by omega) e.symm
    rcases Nat.lt_or_ge c (l.length + 1) with h2 | h2
    · exact insert_grow l x i L hL h c g o vb base w t hP hO.2.1 h2 hlen hv hbase
    · exact insert_room l x i L hL h c g o vb base w t hP hO.2.1 h2 hv hne' hbase
  · obtain rfl : i = l.length := by omega
    refine insert_end l x L ?_ a c vb base w t hO hlen hv hbase
    rw [hL, List.take_length, List.drop_length, List.append_nil]
end Go.Proofs.Ytaealoodchkeaaa
