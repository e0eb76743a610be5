/- The landed package cache: Get. -/
import Derived.Test.YtaealoodchkeaaaLandB
set_option linter.unusedSimpArgs false
set_option linter.unusedVariables false
namespace Go.Proofs.Ytaealoodchkeaaa
open R3 Go.RowKit Go.Proofs.Ytaealoodchkeaaa.Kind

theorem below_of_alloc {w w' : World} {o : Obj} (h : w' = w.alloc o) : Below w.heap.size w w' := by subst h; exact below1 w o
theorem laid_of_drew {w w' : World} {o : Obj} (h : w' = w.drew.alloc o) : w'.heap[w.heap.size]? = some o := by subst h; exact laid1 w.drew o
theorem laid_of_alloc {w w' : World} {o : Obj} (h : w' = w.alloc o) : w'.heap[w.heap.size]? = some o := by subst h; exact laid1 w o

set_option maxHeartbeats 8000000 in
set_option maxRecDepth 1000000 in
theorem get_spec : GetSpec := by
  intro l s n a c x r w hl hx hr hR
  have HX := Lib.hid hx
  have HRR := Lib.hid hr
  have HR := Lib.hid hR
  have HZ := Lib.hid (laid1 w (.cells #[.string { data := #[] }, .string { data := #[] }, .int .i64 0, .int .i64 0] 29))
  have hB0 := below1 w (.cells #[.string { data := #[] }, .string { data := #[] }, .int .i64 0, .int .i64 0] 29)
  obtain ⟨W, hW⟩ : ∃ W, W = w.alloc (.cells #[.string { data := #[] }, .string { data := #[] }, .int .i64 0, .int .i64 0] 29) := ⟨_, rfl⟩
  have hWs : W.heap.size = w.heap.size + 1 := by rw [hW]; simp
  have hNm := named_any s W
  have hFi := find_any 37 #[.pointer (some ⟨W.heap.size, 0, none⟩)] (is s) l a c (W.alloc (.cells #[.string s] 9)) enter_named ((hR.below (by rw [hW]; exact hB0)).below (below1 W _)) (named_tells s W.heap.size 9 _ (laid1 W _))
  have HNm := Lib.hid hNm
  have HFi := Lib.hid hFi
  have HB0 := Lib.hid (show Below w.heap.size w W by rw [hW]; exact hB0)
  rw [← hW] at HZ
  have HW := Lib.hid hW
  have HWs := Lib.hid hWs
  clear hx hr hR hNm hFi hB0 hW hWs
  rcases place_cases l s with ⟨_, h2, h3⟩ | ⟨k, y, _, h2, h3, h4⟩
  · have hF : l.findIdx (is s) = l.length := by rw [List.findIdx_eq_getD_findIdx?, h2]; rfl
    rw [hF] at HFi
    have H1 := Lib.hid (show x = Kn.no by rw [HX.out]; unfold getV getK; rw [h3]; rfl)
    have H2 := Lib.hid (show r = false by rw [HRR.out]; unfold getB getK; rw [h3]; rfl)
    clear h2 h3 HX HRR hF
    go_enter Try.func10, Try.ntmps10
    go_wp2_with fail
    rw [← HW.out]
    clear HW
    with_reducible refine HNm.out.mono ?_
    rintro e w1 ⟨rfl, hw1⟩
    subst hw1
    go_wp2_with fail
    with_reducible refine HFi.out.mono ?_
    rintro e w1 ⟨rfl, hb1⟩
    have hb2 := (below1 W (.cells #[.string s] 9)).trans (hb1.mono (by simp))
    have HZ1 := Lib.hid ((hb2.block w.heap.size (by have := HWs.out; omega)).trans HZ.out)
    have HB1 := Lib.hid (HB0.out.trans (hb2.mono (by have := HWs.out; omega)))
    clear hb1 hb2 HZ HNm HFi HB0
    go_wp2_with fail
    go_quiet (fail)
    obtain ⟨w2, hw2, hbw⟩ : ∃ w2, w2 = w1.drewN nq ∧ Below w1.heap.size w1 w2 := ⟨_, rfl, below_drewN (Below.refl _ _) _⟩
    rw [← hw2]
    have HZ2 := Lib.hid ((hbw.block _ (lt_of_block HZ1.out)).trans HZ1.out)
    have HB2 := Lib.hid (HB1.out.trans (hbw.mono HB1.out.size))
    clear hw2 hbw HZ1 HB1
    obtain ⟨⟨x0, x1, x2, x3⟩, y0, y1, y2, y3⟩ := boxes4 HZ2.out
    go_wp2_with fail
    obtain rfl := H1.out
    obtain rfl := H2.out
    refine bodyPost_ret (res_cell_tmp rfl _ _ _ w.heap.size rfl _ (load_Kn (x := Kn.no) (set4_at HZ2.out _ _ _ _))) rfl ?_
    exact ⟨rfl, set4_below HB2.out (Nat.le_refl _) _ _ _ _⟩
  · have hF : l.findIdx (is s) = k := by rw [List.findIdx_eq_getD_findIdx?, h2]; rfl
    rw [hF] at HFi
    have hk : k < l.length := (List.getElem?_eq_some_iff.1 h3).1
    have hmx : (l.length : Int) ≤ 1000 := by omega
    have hki : (k : Int) < (l.length : Int) := by omega
    have hk0 : (0 : Int) ≤ (k : Int) := by omega
    have hke : ((k : Int) == (l.length : Int)) = false := by simp; omega
    obtain ⟨b, o, rfl, hb, hat⟩ := HR.out.2.2.2 (by omega)
    have HC := Lib.hid (fun (W : World) (h : Below w.heap.size w W) => KK.cells (hat.below h hb) h3)
    have H4 := Lib.hid h4
    clear h2 h3 h4 hat HR hF
    have HST := Lib.hid (fun W => stale_any n W)
    go_enter Try.func10, Try.ntmps10
    go_wp2_with fail
    rw [← HW.out]
    clear HW
    with_reducible refine HNm.out.mono ?_
    rintro e w1 ⟨rfl, hw1⟩
    subst hw1
    go_wp2_with fail
    with_reducible refine HFi.out.mono ?_
    rintro e w1 ⟨rfl, hb1⟩
    have hb2 := (below1 W (.cells #[.string s] 9)).trans (hb1.mono (by simp))
    have HZ1 := Lib.hid ((hb2.block w.heap.size (by have := HWs.out; omega)).trans HZ.out)
    have HB1 := Lib.hid (HB0.out.trans (hb2.mono (by have := HWs.out; omega)))
    clear hb1 hb2 HZ HNm HFi HB0
    have HSB := Lib.hid (fun (W' : World) (h : Below w1.heap.size w1 W') => And.intro (HC.out W' (HB1.out.trans (h.mono HB1.out.size))) h)
    obtain ⟨c0, c1, c2, c3⟩ := HC.out w1 HB1.out
    have HTell := Lib.hid (fun (W : World) (g : Nat) (hg : W.heap[g]? = some (.cells #[.int .i64 n] 3 (0, 0))) => (show Calls Try.prog 38 #[.agg #[.string y.name, .string y.row, .int .i64 y.e, .int .i64 y.until_], .pointer (some ⟨g, 0, none⟩)] W fun e W' => e = .returned (.bool (!freshB n y)) ∧ Below W.heap.size W W' from stale_tells n g 3 W hg W y (Below.refl _ _)))
    go_wp2_with fail

    go_region_held3 (fun W => (W.cell? ⟨b, o + k * 4, none⟩ = some (.string y.name) ∧ W.cell? ⟨b, o + k * 4 + 1, none⟩ = some (.string y.row) ∧ W.cell? ⟨b, o + k * 4 + 2, none⟩ = some (.int .i64 y.e) ∧ W.cell? ⟨b, o + k * 4 + 3, none⟩ = some (.int .i64 y.until_)) ∧ Below w1.heap.size w1 W) (first | assumption | exact HSB.out _ (kept_call (by assumption) hbC) | exact HSB.out _ (kept_call (by assumption) hbS) | exact HSB.out _ (Below.refl _ _).drew) (first
      | (go_at_call 26; (with_reducible refine (HST.out _).mono ?_); rintro e wS ⟨rfl, hwS⟩; have hbS := below_of_alloc hwS; have HGS := Lib.hid (laid_of_drew hwS); clear hwS)
      | (go_at_call 38; (with_reducible refine (HTell.out _ _ HGS.out).mono ?_); rintro e wC ⟨rfl, hbC⟩))
    have hbx : Below w1.heap.size w1 wC := (((Below.refl _ w1).drew).trans hbS).trans (hbC.mono hbS.size)
    have HZ2 := Lib.hid ((hbx.block _ (lt_of_block HZ1.out)).trans HZ1.out)
    have HB2 := Lib.hid (HB1.out.trans (hbx.mono HB1.out.size))
    obtain ⟨⟨x0, x1, x2, x3⟩, y0, y1, y2, y3⟩ := boxes4 HZ2.out
    clear c0 c1 c2 c3
    obtain ⟨c0, c1, c2, c3⟩ := HC.out wC HB2.out
    clear hbx hbS hbC HGS HSB HTell HST HC HB1 HZ1
    cases hf : freshB n y with
    | true =>
      have H1 := Lib.hid (show x = y by rw [HX.out]; unfold getV getK; rw [H4.out]; simp [hf])
      have H2 := Lib.hid (show r = true by rw [HRR.out]; unfold getB getK; rw [H4.out]; simp [hf])
      clear hf HX HRR H4
      go_wp2_with fail
      obtain rfl := H1.out
      obtain rfl := H2.out
      refine bodyPost_ret (res_cell_tmp rfl _ _ _ w.heap.size rfl _ (load_Kn (set4_at HZ2.out _ _ _ _))) rfl ?_
      exact ⟨rfl, set4_below HB2.out (Nat.le_refl _) _ _ _ _⟩
    | false =>
      have H1 := Lib.hid (show x = Kn.no by rw [HX.out]; unfold getV getK; rw [H4.out]; simp [hf])
      have H2 := Lib.hid (show r = false by rw [HRR.out]; unfold getB getK; rw [H4.out]; simp [hf])
      clear hf HX HRR H4
      go_wp2_with fail
      obtain rfl := H1.out
      obtain rfl := H2.out
      refine bodyPost_ret (res_cell_tmp rfl _ _ _ w.heap.size rfl _ (load_Kn (x := Kn.no) (set4_at HZ2.out _ _ _ _))) rfl ?_
      exact ⟨rfl, set4_below HB2.out (Nat.le_refl _) _ _ _ _⟩

/-! Until. -/
def arrU (l : List Kn) (k : Nat) : Array Value := ((l.take k).map (fun x => Value.int .i64 x.until_) ++ List.replicate (l.length - k) (Value.int .i64 0)).toArray
theorem arrU_set {l : List Kn} {k : Nat} {x : Kn} (hx : l[k]? = some x) : (arrU l k).setIfInBounds k (.int .i64 x.until_) = arrU l (k + 1) := by
  have hk : k < l.length := (List.getElem?_eq_some_iff.1 hx).1
  unfold arrU
  rw [List.setIfInBounds_toArray]
  congr 1
  have e : l.take (k + 1) = l.take k ++ [x] := by rw [List.take_add_one, hx]; rfl
  rw [e, List.map_append, List.append_assoc, List.set_append]
  have hl : ((l.take k).map (fun x => Value.int .i64 x.until_)).length = k := by simp; omega
  rw [hl, if_neg (by omega), Nat.sub_self]
  congr 1
  obtain ⟨m, hm⟩ : ∃ m, l.length - k = m + 1 := ⟨l.length - k - 1, by omega⟩
  rw [hm, show l.length - (k + 1) = m by omega, List.replicate_succ]
  rfl
theorem arrU_at {l : List Kn} {k : Nat} (hk : k < l.length) : (arrU l k)[k]? = some (.int .i64 0) := by
  unfold arrU
  have hl : ((l.take k).map (fun x => Value.int .i64 x.until_)).length = k := by simp; omega
  rw [List.getElem?_toArray, List.getElem?_append_right (by omega), hl, Nat.sub_self, List.getElem?_replicate, if_pos (by omega)]
theorem arrU_all (l : List Kn) : arrU l l.length = ((l.map (·.until_)).map (Value.int .i64 ·)).toArray := by
  unfold arrU
  simp
theorem run_made_u (w : World) (l : List Kn) (hn : l.length ≤ 1000) : (Instr.makeSlice 52 (.int .i64 l.length) (.int .i64 l.length)).run Try.prog w = .ok (.slice (some ⟨w.heap.size, 0, none⟩) l.length l.length) (w.alloc (.cells (arrU l 0) 3)) := by
  obtain ⟨i0, hi, hz0, hz1, hz2⟩ := info_parts IK.hi
  have h := run_makeSlice (P := Try.prog) (w := w) 52 3 i0 IK.z IK.hu hi hz0 .i64 .i64 l.length l.length (by omega) (by omega) (by rw [hz1]; show (l.length : Int).toNat * 1 ≤ _; omega) (by rw [hz2]; show ((8 : Nat) : Int) * (l.length : Int) ≤ _; omega) (by omega)
  rw [hz1, Int.toNat_natCast] at h
  have e : madeCells IK.z.cells (l.length * IK.k) = arrU l 0 := by
    unfold arrU
    show madeCells #[Value.int .i64 0] (l.length * 1) = _
    rw [Nat.mul_one]
    unfold madeCells
    apply Array.ext
    · simp
    · intro i h1 h2
      simp [Nat.mod_one]
  rw [e] at h
  exact h
theorem rowI_arr {w : World} {g : Nat} {l : List Int} {t : TypeId} (h : w.heap[g]? = some (.cells ((l.map (Value.int .i64 ·)).toArray) t (0, 0))) : R3.RowI w (some ⟨g, 0, none⟩) l := fun _ =>
  ⟨g, 0, rfl, lt_of_block h, fun j x hx => by simp [World.cell?, h, hx]⟩

set_option maxHeartbeats 4000000 in
set_option maxRecDepth 1000000 in
theorem until_spec : UntilSpec := by
  intro l a c i t w hl hi ht hR
  have hmx : (l.length : Int) ≤ 1000 := by omega
  have hmk := fun w => run_made_u w l hl
  have HR := Lib.hid hR
  have HI := Lib.hid hi
  have HT := Lib.hid ht
  clear hR hi ht
  go_enter Try.func12, Try.ntmps12
  go_wp2_with fail
  go_loopw [12] (fun u wr => ∃ k : Nat, u = .int .i64 k ∧ k ≤ l.length ∧ Hid (wr.heap[w.heap.size]? = some (.cells (arrU l k) 3 (0, 0))) ∧ Hid (Below w.heap.size w wr)) (fun u _ => l.length - (intOf u).toNat)
  case atStart => exact ⟨0, rfl, by omega, Lib.hid (laid1 w _), Lib.hid (below1 w _)⟩
  case round =>
    obtain ⟨k, rfl, hk, hA, hB⟩ := hrel
    have HA := Lib.hid hA.out
    have HB := Lib.hid hB.out
    have hlt0 := lt_of_block HA.out
    have hgb := HB.out.size
    clear hA hB
    by_cases hlt : k < l.length
    · obtain ⟨b, o, rfl, hb, hat⟩ := HR.out.2.2.2 (by omega)
      obtain ⟨x, hx⟩ : ∃ x, l[k]? = some x := ⟨_, List.getElem?_eq_getElem hlt⟩
      obtain ⟨c0, c1, c2, c3⟩ := KK.cells (hat.below HB.out hb) hx
      have HA1 := Lib.hid (show (wr.setCell ⟨w.heap.size, k, none⟩ (.int .i64 x.until_)).heap[w.heap.size]? = some (.cells (arrU l (k + 1)) 3 (0, 0)) by have h := set_at HA.out k (.int .i64 x.until_); rw [arrU_set hx] at h; exact h)
      have hki : (k : Int) < (l.length : Int) := by omega
      have hk0 : (0 : Int) ≤ (k : Int) := by omega
      have hin : k < (arrU l k).size := by unfold arrU; simp; omega
      have hcc : wr.cell? ⟨w.heap.size, k, none⟩ = some (.int .i64 0) := by simp only [World.cell?, HA.out]; exact arrU_at hlt
      have hfz : wr.frozen? ⟨w.heap.size, k, none⟩ = false := by simp [World.frozen?, HA.out]
      have HB1 := Lib.hid (HB.out.setCell (p := ⟨w.heap.size, k, none⟩) (Nat.le_refl _) (.int .i64 x.until_))
      clear hx hat hin
      go_wp2_with fail
      go_roundw
      case rel => exact ⟨k + 1, by go_num, by omega, Lib.hid ((Below.heap_alloc _ _ _ (lt_of_block HA1.out)).trans HA1.out), Lib.hid (HB1.out.alloc HB1.out.size _)⟩
      case measure => simp [intOf]; omega
    · obtain rfl : k = l.length := by omega
      have hA := HA.out
      rw [arrU_all] at hA
      have HF := Lib.hid (first_any (l.map (·.until_)) (some ⟨w.heap.size, 0, none⟩) l.length wr (by simp; omega) (rowI_arr hA))
      rw [List.length_map] at HF
      clear hA
      go_wp2_with fail
      with_reducible refine HF.out.mono ?_
      rintro e w1 ⟨rfl, hb1⟩
      have HB1 := Lib.hid (HB.out.trans (hb1.mono hgb))
      clear hb1
      go_wp2_with fail
      go_ret2
      exact ⟨by rw [HI.out, HT.out]; rfl, HB1.out⟩
end Go.Proofs.Ytaealoodchkeaaa
