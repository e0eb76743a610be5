/- The document's own answers about what is known, walked. -/
import Derived.Test.YtaealoodchkeaaaKnown
import Derived.Test.YtaealoodchkeaaaLoose
import Derived.Test.YtaealoodchkeaaaBoxes
import Derived.Deep.RegionHeld3
set_option linter.unusedSimpArgs false
set_option linter.unusedVariables false
namespace Go.Proofs.Ytaealoodchkeaaa
open R3 Go.RowKit Go.Proofs.Ytaealoodchkeaaa.Kind

set_option maxHeartbeats 4000000 in
set_option maxRecDepth 1000000 in
theorem rfresh_any (x : Kn) (n : Int) (w : World) :
    Calls Try.prog 28 #[.agg #[.string x.name, .string x.row, .int .i64 x.e, .int .i64 x.until_], .int .i64 n] w fun e w' => e = .returned (.bool (freshB n x)) ∧ Below w.heap.size w w' := by
  have hb := below1 w (.cells #[.string x.name, .string x.row, .int .i64 x.e, .int .i64 x.until_] 29)
  have HB := Lib.hid hb
  clear hb
  go_enter Try.func28, Try.ntmps28
  go_wp2_with fail
  go_quiet (first | (go_at_call 23; exact Calls.quiet_of_same (rclamp_any _ _)))
  go_wp2_with fail
  go_ret
  exact ⟨by unfold freshB; rfl, below_drewN HB.out _⟩

def placeI (l : List Kn) (s : ByteArray) : Int := match l.findIdx? (is s) with | some i => (i : Int) | none => -1
def NotTo (l : List Kn) (s : ByteArray) (k : Nat) : Prop := ∀ j x, j < k → l[j]? = some x → x.name ≠ s
theorem notTo_step {l : List Kn} {s : ByteArray} {k : Nat} {x : Kn} (h : NotTo l s k) (hx : l[k]? = some x) (hn : x.name ≠ s) : NotTo l s (k + 1) := fun j y hj hy => by
  rcases Nat.lt_succ_iff_lt_or_eq.1 hj with h1 | h1
  · exact h j y h1 hy
  · subst h1
    rw [hx] at hy
    obtain rfl := Option.some.inj hy
    exact hn
theorem place_at {l : List Kn} {s : ByteArray} {k : Nat} {x : Kn} (h : NotTo l s k) (hx : l[k]? = some x) (hn : x.name = s) : placeI l s = k := by
  have hk : k < l.length := (List.getElem?_eq_some_iff.1 hx).1
  unfold placeI
  have : l.findIdx? (is s) = some k := by
    rw [List.findIdx?_eq_some_iff_getElem]
    refine ⟨hk, ?_, fun j hj => ?_⟩
    · have := (List.getElem?_eq_some_iff.1 hx).2
      simp [is, this, hn]
    · have := h j _ hj (List.getElem?_eq_getElem (by omega))
      simp [is, this]
  rw [this]
theorem place_none {l : List Kn} {s : ByteArray} (h : NotTo l s l.length) : placeI l s = -1 := by
  unfold placeI
  have : l.findIdx? (is s) = none := by
    rw [List.findIdx?_eq_none_iff]
    intro x hx
    obtain ⟨j, hj, rfl⟩ := List.mem_iff_getElem.1 hx
    exact decide_eq_false (h j _ hj (List.getElem?_eq_getElem hj))
  rw [this]

set_option maxHeartbeats 4000000 in
set_option maxRecDepth 1000000 in
theorem rplace_any (l : List Kn) (s : ByteArray) (a : Option Addr) (c : Nat) (w : World) (hR : KK.RowC w a c l) :
    Calls Try.prog 27 #[.slice a l.length c, .string s] w fun e w' => e = .returned (.int .i64 (placeI l s)) ∧ w' = w := by
  have hmx : (l.length : Int) ≤ 9223372036854775807 := by have h1 := hR.1; have h2 := hR.2.1; unfold maxLen at h2; omega
  have HR := Lib.hid hR
  clear hR
  go_enter Try.func27, Try.ntmps27
  go_wp2_with fail
  go_loopw [5] (fun i wr => ∃ k : Nat, i = .int .i64 k ∧ k ≤ l.length ∧ Hid (NotTo l s k) ∧ wr = w) (fun i _ => l.length - (intOf i).toNat)
  case atStart => exact ⟨0, rfl, by omega, Lib.hid (fun j x hj => by omega), rfl⟩
  case round =>
    obtain ⟨k, rfl, hk, hn, rfl⟩ := hrel
    have HN := Lib.hid hn.out
    clear hn
    by_cases hlt : k < l.length
    · obtain ⟨b, o, rfl, hb, hat⟩ := HR.out.2.2.2 (by omega)
      obtain ⟨x, hx⟩ : ∃ x, l[k]? = some x := ⟨_, List.getElem?_eq_getElem hlt⟩
      obtain ⟨c0, c1, c2, c3⟩ := KK.cells hat hx
      have HX := Lib.hid hx
      clear hat hx
      by_cases hq : x.name = s
      · have he : (x.name.toList == s.toList) = true := by rw [text_eq]; exact decide_eq_true hq
        have HQ := Lib.hid hq
        clear hq
        go_wp2_with fail
        go_ret
        exact ⟨by rw [place_at HN.out HX.out HQ.out]; rfl, rfl⟩
      · have he : (x.name.toList == s.toList) = false := by rw [text_eq]; exact decide_eq_false hq
        have HQ := Lib.hid hq
        clear hq
        go_wp2_with fail
        go_roundw
        case rel => exact ⟨k + 1, by go_num, by omega, Lib.hid (notTo_step HN.out HX.out HQ.out), by first | rfl | trivial⟩
        case measure => simp [intOf]; omega
    · obtain rfl : k = l.length := by omega
      go_wp2_with fail
      go_ret
      exact ⟨by rw [place_none HN.out]; rfl, rfl⟩
theorem place_cases (l : List Kn) (s : ByteArray) : (placeI l s = -1 ∧ l.findIdx? (is s) = none ∧ findK l s = none) ∨ ∃ (k : Nat) (x : Kn), placeI l s = k ∧ l.findIdx? (is s) = some k ∧ l[k]? = some x ∧ findK l s = some x := by
  unfold placeI
  cases h : l.findIdx? (is s) with
  | none =>
    refine .inl ⟨rfl, rfl, ?_⟩
    unfold findK
    rw [List.find?_eq_none]
    intro x hx
    have := List.findIdx?_eq_none_iff.1 h x hx
    simp [this]
  | some k =>
    obtain ⟨hk, h1, h2⟩ := List.findIdx?_eq_some_iff_getElem.1 h
    refine .inr ⟨k, l[k], rfl, rfl, List.getElem?_eq_getElem hk, ?_⟩
    unfold findK
    rw [List.find?_eq_some_iff_getElem]
    refine ⟨h1, k, hk, rfl, fun j hj => ?_⟩
    have := h2 j hj
    simpa using this
/-- What is got, as two results. -/
def getV (l : List Kn) (s : ByteArray) (n : Int) : Kn := (getK l s n).getD Kn.no
def getB (l : List Kn) (s : ByteArray) (n : Int) : Bool := (getK l s n).isSome

def set4 (w : World) (b : Nat) (x0 x1 x2 x3 : Value) : World := (((w.setCell ⟨b, 0, none⟩ x0).setCell ⟨b, 1, none⟩ x1).setCell ⟨b, 2, none⟩ x2).setCell ⟨b, 3, none⟩ x3
theorem set4_at {w : World} {b : Nat} {y0 y1 y2 y3 : Value} {t : TypeId} (h : w.heap[b]? = some (.cells #[y0, y1, y2, y3] t (0, 0))) (x0 x1 x2 x3 : Value) : (set4 w b x0 x1 x2 x3).heap[b]? = some (.cells #[x0, x1, x2, x3] t (0, 0)) := by
  have h0 : (w.setCell ⟨b, 0, none⟩ x0).heap[b]? = some (.cells #[x0, y1, y2, y3] t (0, 0)) := set_at h 0 x0
  have h1 : ((w.setCell ⟨b, 0, none⟩ x0).setCell ⟨b, 1, none⟩ x1).heap[b]? = some (.cells #[x0, x1, y2, y3] t (0, 0)) := set_at h0 1 x1
  have h2 : (((w.setCell ⟨b, 0, none⟩ x0).setCell ⟨b, 1, none⟩ x1).setCell ⟨b, 2, none⟩ x2).heap[b]? = some (.cells #[x0, x1, x2, y3] t (0, 0)) := set_at h1 2 x2
  have h3 : ((((w.setCell ⟨b, 0, none⟩ x0).setCell ⟨b, 1, none⟩ x1).setCell ⟨b, 2, none⟩ x2).setCell ⟨b, 3, none⟩ x3).heap[b]? = some (.cells #[x0, x1, x2, x3] t (0, 0)) := set_at h2 3 x3
  exact h3
theorem set4_below {w0 w : World} {n b : Nat} (h : Below n w0 w) (hn : n ≤ b) (x0 x1 x2 x3 : Value) : Below n w0 (set4 w b x0 x1 x2 x3) := (((h.setCell (p := ⟨b, 0, none⟩) hn _).setCell (p := ⟨b, 1, none⟩) hn _).setCell (p := ⟨b, 2, none⟩) hn _).setCell (p := ⟨b, 3, none⟩) hn _

set_option maxHeartbeats 4000000 in
set_option maxRecDepth 1000000 in
theorem rget_any (l : List Kn) (s : ByteArray) (n : Int) (a : Option Addr) (c : Nat) (x : Kn) (r : Bool) (hx : x = getV l s n) (hr : r = getB l s n) (w : World) (hR : KK.RowC w a c l) :
    Calls Try.prog 11 #[.slice a l.length c, .string s, .int .i64 n] w fun e w' => e = .returned (.tuple #[x.v, .bool r]) ∧ Below w.heap.size w w' := by
  have hmx : (l.length : Int) ≤ 9223372036854775807 := by have h1 := hR.1; have h2 := hR.2.1; unfold maxLen at h2; omega
  have HR := Lib.hid hR
  have HP := Lib.hid (fun (W : World) (h : Below w.heap.size w W) => rplace_any l s a c W (hR.below h))
  have HX := Lib.hid hx
  have HRR := Lib.hid hr
  clear hR hx hr
  rcases place_cases l s with ⟨h1, _, h3⟩ | ⟨k, y, h1, _, h3, h4⟩
  · simp only [h1] at HP
    have H1 := Lib.hid (show x = Kn.no by rw [HX.out]; unfold getV getK; rw [h3]; rfl)
    have H2 := Lib.hid (show r = false by rw [HRR.out]; unfold getB getK; rw [h3]; rfl)
    clear h1 h3 HX HRR
    go_enter Try.func11, Try.ntmps11
    go_wp2_with fail
    with_reducible refine (HP.out _ (below1 _ _)).mono ?_
    rintro e w1 ⟨rfl, hw⟩
    subst w1
    go_wp2_with fail
    obtain rfl := H1.out
    obtain rfl := H2.out
    refine bodyPost_ret (res_cell_tmp rfl _ _ _ w.heap.size rfl _ (load_Kn (x := Kn.no) (laid1 w _))) rfl ?_
    exact ⟨rfl, below1 _ _⟩
  · simp only [h1] at HP
    have hk : k < l.length := (List.getElem?_eq_some_iff.1 h3).1
    obtain ⟨b, o, rfl, hb, hat⟩ := HR.out.2.2.2 (by omega)
    obtain ⟨c0, c1, c2, c3⟩ := KK.cells hat h3
    have HC := Lib.hid (fun (W : World) (h : Below w.heap.size w W) => KK.cells (hat.below h hb) h3)
    have H3 := Lib.hid h4
    have HF := Lib.hid (fun w => rfresh_any y n w)
    clear h1 h3 h4 hat HR
    cases hf : freshB n y with
    | true =>
      rw [hf] at HF
      have H1 := Lib.hid (show x = y by rw [HX.out]; unfold getV getK; rw [H3.out]; simp [hf])
      have H2 := Lib.hid (show r = true by rw [HRR.out]; unfold getB getK; rw [H3.out]; simp [hf])
      clear hf HX HRR H3
      go_enter Try.func11, Try.ntmps11
      go_wp2_with fail
      with_reducible refine (HP.out _ (below1 _ _)).mono ?_
      rintro e w1 ⟨rfl, hw⟩
      subst w1
      go_wp2_with fail
      with_reducible refine (HF.out _).mono ?_
      rintro e w1 ⟨rfl, hb1⟩
      have hB1 := (below1 w (.cells #[.string { data := #[] }, .string { data := #[] }, .int .i64 0, .int .i64 0] 29)).trans (hb1.mono (by simp))
      have HZ := Lib.hid ((hb1.block _ (by simp)).trans (laid1 w (.cells #[.string { data := #[] }, .string { data := #[] }, .int .i64 0, .int .i64 0] 29)))
      obtain ⟨⟨x0, x1, x2, x3⟩, y0, y1, y2, y3⟩ := boxes4 HZ.out
      clear c0 c1 c2 c3
      obtain ⟨c0, c1, c2, c3⟩ := HC.out w1 hB1
      have HB1 := Lib.hid hB1
      clear hB1 hb1 HC HP HF
      go_wp2_with fail
      obtain rfl := H1.out
      obtain rfl := H2.out
      refine bodyPost_ret (res_cell_tmp rfl _ _ _ w.heap.size rfl _ (load_Kn (set4_at HZ.out _ _ _ _))) rfl ?_
      exact ⟨rfl, set4_below HB1.out (Nat.le_refl _) _ _ _ _⟩
    | false =>
      rw [hf] at HF
      have H1 := Lib.hid (show x = Kn.no by rw [HX.out]; unfold getV getK; rw [H3.out]; simp [hf])
      have H2 := Lib.hid (show r = false by rw [HRR.out]; unfold getB getK; rw [H3.out]; simp [hf])
      clear hf HX HRR H3
      go_enter Try.func11, Try.ntmps11
      go_wp2_with fail
      with_reducible refine (HP.out _ (below1 _ _)).mono ?_
      rintro e w1 ⟨rfl, hw⟩
      subst w1
      go_wp2_with fail
      with_reducible refine (HF.out _).mono ?_
      rintro e w1 ⟨rfl, hb1⟩
      have HB1 := Lib.hid ((below1 w (.cells #[.string { data := #[] }, .string { data := #[] }, .int .i64 0, .int .i64 0] 29)).trans (hb1.mono (by simp)))
      have HZ := Lib.hid ((hb1.block _ (by simp)).trans (laid1 w (.cells #[.string { data := #[] }, .string { data := #[] }, .int .i64 0, .int .i64 0] 29)))
      obtain ⟨⟨x0, x1, x2, x3⟩, y0, y1, y2, y3⟩ := boxes4 HZ.out
      clear c0 c1 c2 c3 hb1 HC HP HF
      go_wp2_with fail
      obtain rfl := H1.out
      obtain rfl := H2.out
      first
        | (refine bodyPost_ret (res_cell_tmp rfl _ _ _ w.heap.size rfl _ (load_Kn (x := Kn.no) (set4_at HZ.out _ _ _ _))) rfl ?_
           exact ⟨rfl, set4_below HB1.out (Nat.le_refl _) _ _ _ _⟩)
        | (refine bodyPost_ret (res_cell_tmp rfl _ _ _ w.heap.size rfl _ (load_Kn (x := Kn.no) HZ.out)) rfl ?_
           exact ⟨rfl, HB1.out⟩)

set_option maxHeartbeats 4000000 in
set_option maxRecDepth 1000000 in
/-- The same entries. -/
theorem rsame_yes (l : List Kn) (a b : Option Addr) (c d : Nat) (w : World) (hA : KK.RowC w a c l) (hB : KK.RowC w b d l) :
    Calls Try.prog 16 #[.slice a l.length c, .slice b l.length d] w fun e w' => e = .returned (.bool true) ∧ Below w.heap.size w w' := by
  have HA := Lib.hid hA
  have HB := Lib.hid hB
  have hmx : l.length ≤ 9223372036854775807 := by have h1 := hA.1; have h2 := hA.2.1; unfold maxLen at h2; omega
  clear hA hB
  go_enter Try.func16, Try.ntmps16
  go_wp2_with fail
  go_loopw [5] (fun i wr => ∃ k q : Nat, k ≤ l.length ∧ i = .int .i64 k ∧ wr = w.drewN q) (fun i _ => l.length - (intOf i).toNat)
  case atStart => exact ⟨0, 0, by omega, rfl, rfl⟩
  case round =>
    obtain ⟨k, q, hk, rfl, rfl⟩ := hrel
    by_cases hlt : k < l.length
    · obtain ⟨b1, o1, rfl, hb1, hat1⟩ := HA.out.2.2.2 (by omega)
      obtain ⟨b2, o2, rfl, hb2, hat2⟩ := HB.out.2.2.2 (by omega)
      obtain ⟨x, hx⟩ : ∃ x, l[k]? = some x := ⟨_, List.getElem?_eq_getElem hlt⟩
      obtain ⟨c0, c1, c2, c3⟩ := KK.cells hat1 hx
      obtain ⟨d0, d1, d2, d3⟩ := KK.cells hat2 hx
      have hnq := neq_self_Kn x
      have hgd := guard_Kn
      clear hx hat1 hat2
      go_wp2_with fail
      go_quiet (fail)
      go_wp2_with fail
      go_roundw
      case rel => exact ⟨k + 1, _, by omega, by go_num, rfl⟩
      case measure => simp [intOf]; omega
    · obtain rfl : k = l.length := by omega
      go_wp2_with fail
      go_ret
      exact ⟨rfl, below_drewN (Below.refl _ _) q⟩

/-- Entries that are not too great to be asked. -/
def Few11 (l : List Kn) : Prop := l.length ≤ 60 ∧ ∀ x ∈ l, x.name.size + x.row.size ≤ 2000
def Some11 (l : List Kn) (e : Ending) : Prop := ∃ r, e = .returned (.bool r) ∧ (r = false → Few11 l)
def LightTo (l : List Kn) (k : Nat) : Prop := ∀ j x, j < k → l[j]? = some x → x.name.size + x.row.size ≤ 2000
theorem lightTo_step {l : List Kn} {k : Nat} {x : Kn} (h : LightTo l k) (hx : l[k]? = some x) (hn : x.name.size + x.row.size ≤ 2000) : LightTo l (k + 1) := fun j y hj hy => by
  rcases Nat.lt_succ_iff_lt_or_eq.1 hj with h1 | h1
  · exact h j y h1 hy
  · subst h1
    rw [hx] at hy
    obtain rfl := Option.some.inj hy
    exact hn
set_option maxHeartbeats 4000000 in
set_option maxRecDepth 1000000 in
theorem rgreat_any (l : List Kn) (a : Option Addr) (c : Nat) (w : World) (hl : ∀ x ∈ l, x.name.size ≤ 140737488355328 ∧ x.row.size ≤ 140737488355328) (hR : KK.RowC w a c l) :
    Calls Try.prog 8 #[.slice a l.length c] w fun e w' => Some11 l e ∧ Below w.heap.size w w' := by
  have hmx : l.length ≤ 9223372036854775807 := by have h1 := hR.1; have h2 := hR.2.1; unfold maxLen at h2; omega
  have HR := Lib.hid hR
  have HL := Lib.hid hl
  clear hR hl
  go_enter Try.func8, Try.ntmps8
  go_wp2_with fail
  go_loopw [3] (fun i wr => ∃ k q : Nat, i = .int .i64 k ∧ k ≤ l.length ∧ k ≤ 61 ∧ Hid (LightTo l k) ∧ wr = w.drewN q) (fun i _ => l.length - (intOf i).toNat)
  case atStart => exact ⟨0, 0, rfl, by omega, by omega, Lib.hid (fun j x hj => by omega), rfl⟩
  case round =>
    obtain ⟨k, q, rfl, hk, hk2, hn, rfl⟩ := hrel
    have HN := Lib.hid hn.out
    clear hn
    by_cases hlt : k < l.length
    · by_cases h60 : k ≤ 60
      · obtain ⟨b, o, rfl, hb, hat⟩ := HR.out.2.2.2 (by omega)
        obtain ⟨x, hx⟩ : ∃ x, l[k]? = some x := ⟨_, List.getElem?_eq_getElem hlt⟩
        obtain ⟨c0, c1, c2, c3⟩ := KK.cells hat hx
        have hs := HL.out x (List.mem_of_getElem? hx)
        have hsum : IntKind.i64.wrap ((x.name.size : Int) + x.row.size) = (x.name.size : Int) + x.row.size := by rw [IntKind.wrap_i64]; omega
        have HX := Lib.hid hx
        clear hat hx
        by_cases hq : x.name.size + x.row.size ≤ 2000
        · have HQ := Lib.hid hq
          go_wp2_with fail
          go_quiet (fail)
          go_wp2_with fail
          go_roundw
          case rel => exact ⟨k + 1, _, by go_num, by omega, by omega, Lib.hid (lightTo_step HN.out HX.out HQ.out), rfl⟩
          case measure => simp [intOf]; omega
        · go_wp2_with fail
          go_quiet (fail)
          go_wp2_with fail
          go_ret
          exact ⟨⟨true, rfl, fun h => nomatch h⟩, below_drewN (below_drewN (Below.refl _ _) _) _⟩
      · go_wp2_with fail
        go_ret
        exact ⟨⟨_, rfl, fun h => by simp at h; omega⟩, below_drewN (Below.refl _ _) _⟩
    · obtain rfl : k = l.length := by omega
      go_wp2_with fail
      go_ret
      refine ⟨⟨_, rfl, fun h => ⟨by simp at h; omega, fun x hx => ?_⟩⟩, below_drewN (Below.refl _ _) _⟩
      obtain ⟨j, hj, rfl⟩ := List.mem_iff_getElem.1 hx
      exact HN.out j _ hj (List.getElem?_eq_getElem hj)
end Go.Proofs.Ytaealoodchkeaaa
