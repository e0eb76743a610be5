/- The landed package scar: Has, Worst, Same. -/
import Derived.Test.YtipbkhbdnjhofaaLandB
set_option linter.unusedSimpArgs false
set_option linter.unusedVariables false
namespace Go.Proofs.Ytipbkhbdnjhofaa
open R3 Go.RowKit Go.Maps Go.Proofs.Ytipbkhbdnjhofaa.Kind

theorem far_grown {α : Type} {Pr : Program} {K : Kind Pr α} {w w' : World} {base q : Nat} {a : Option Addr} {c : Nat} {l : List α} (h : K.FarC w base a c l) (hg : w.grownBy w' (some q)) (hq : q < base) : K.FarC w' base a c l := by
  refine ⟨⟨h.1.1, h.1.2.1, h.1.2.2.1, fun hl => ?_⟩, h.2⟩
  obtain ⟨b, o, e, hb, hat⟩ := h.1.2.2.2 hl
  have hbb := h.2 hl _ e
  dsimp only at hbb
  have hk : w'.heap[b]? = w.heap[b]? := hg.block b hb (fun e2 => by injection e2 with e2; omega)
  refine ⟨b, o, e, Nat.lt_of_lt_of_le hb hg.size, fun j x hx i v hv => ?_⟩
  have h1 := hat j x hx i v hv
  simp only [World.cell?, hk] at h1 ⊢
  exact h1
set_option maxHeartbeats 8000000 in
set_option maxRecDepth 1000000 in
theorem has_own (l : List Sc) (g n : Int) (ds : List Ad) (s v : Option Addr) (c d : Nat) (r : Bool) (w : World) (hr : r = hasS l g n ds) (hl : l.length ≤ 500) (hd : ds.length ≤ 400) (hol : OkS l) (hod : OkL ds) (hR : SK.RowC w s c l) (hD : AK.RowC w v d ds) :
    Calls Try.prog 10 #[.slice s l.length c, .int .i64 g, .int .i64 n, .slice v ds.length d] w fun e w' => e = .returned (.bool r) ∧ Below w.heap.size w w' := by
  obtain ⟨F, hF⟩ : ∃ F, F = freshS l g n := ⟨_, rfl⟩
  have hFl : F.length ≤ 500 := by have := fresh_len l g n; rw [hF]; omega
  have hOF : OkS F := by rw [hF]; exact okS_fresh hol g n
  have HPl := Lib.hid (places_any ds v d w (by omega) hod hD)
  have HFr := Lib.hid (fun (W : World) (h : Below w.heap.size w W) => fresh_own l g n s c F W hF (by omega) (hR.below h))
  have HRr := Lib.hid (show ∀ D : DataW Unit, Maps.Canon D → LeftTo ds F D F.length → r = ((Maps.size D : Int) == 0) from fun D hc h => by
    rw [hr, Bool.eq_iff_iff, has_all, ← hF, ← left_end hod hc h]
    simp)
  have HOF := Lib.hid hOF
  have HLw := Lib.hid law_ad
  clear hr hl hd hol hod hR hD hF hOF
  go_enter Try.func10, Try.ntmps10
  go_wp2_with fail
  (with_reducible refine HPl.out.mono ?_)
  rintro e w1 ⟨D0, n0, rfl, ho, hp, hb⟩
  have HO1 := Lib.hid ho
  have HP1 := Lib.hid hp
  have HB1 := Lib.hid hb
  clear ho hp hb HPl
  go_wp2_with fail
  (with_reducible refine (HFr.out w1 HB1.out).mono ?_)
  rintro e w2 ⟨a1, c1, rfl, h1, h2⟩
  have HR2 := Lib.hid h1.row
  have HO2 := Lib.hid (show w2.ownsMap Try.prog 31 rawI w.heap.size n0 D0 from map_below HO1.out h2)
  have hs2 := h2.size
  have HB2 := Lib.hid (HB1.out.trans (h2.mono HB1.out.size))
  have HFar := Lib.hid (show SK.FarC w2 w1.heap.size a1 c1 F from Own.far h1)
  have hlt1 : w.heap.size < w1.heap.size := World.ownsMap.lt HO1.out
  clear h1 h2 HFr
  go_wp2_with fail
  go_loopw [19] (fun i wr => ∃ (k : Nat) (D : DataW Unit), i = .int .i64 k ∧ k ≤ F.length ∧ Hid (wr.ownsMap Try.prog 31 rawI w.heap.size n0 D) ∧ Hid (LeftTo ds F D k) ∧ Hid (SK.FarC wr w1.heap.size a1 c1 F) ∧ Hid (w1.heap.size ≤ wr.heap.size) ∧ Hid (Below w.heap.size w wr)) (fun i _ => F.length - (intOf i).toNat)
  case atStart => exact ⟨0, D0, rfl, by omega, HO2, Lib.hid (leftTo_zero HP1.out), HFar, Lib.hid hs2, HB2⟩
  case round =>
    obtain ⟨k, D, rfl, hk, ho, hle, hf, hs, hb⟩ := hrel
    have HO := Lib.hid ho.out
    have HLe := Lib.hid hle.out
    have HFa := Lib.hid hf.out
    have HS := Lib.hid hs.out
    have HB := Lib.hid hb.out
    clear ho hle hf hs hb
    by_cases hlt : k < F.length
    · have hfar := HFa.out.2 (by omega)
      obtain ⟨b, o, hae, hbl, hat⟩ := HFa.out.1.2.2.2 (by omega)
      have hbf := hfar _ hae
      rw [hae]
      have HAE := Lib.hid hae
      obtain ⟨x, hx⟩ : ∃ x, F[k]? = some x := ⟨_, List.getElem?_eq_getElem hlt⟩
      obtain ⟨c0, c1, c2, c3, c4, c5, c6, c7, c8, c9, c10⟩ := SK.cells hat hx
      have HX := Lib.hid hx
      have HOa := Lib.hid (HOF.out x (List.mem_of_getElem? hx))
      have HK := Lib.hid (key_ad HOa.out)
      have HBx := Lib.hid (HB.out.trans ((below1 wr (.cells #[.int .i8 x.ad.f, .int .u16 x.ad.g0, .int .u16 x.ad.g1, .int .u16 x.ad.g2, .int .u16 x.ad.g3, .int .u16 x.ad.g4, .int .u16 x.ad.g5, .int .u16 x.ad.g6, .int .u16 x.ad.g7, .int .i64 x.ad.p, .int .i64 x.at_] 33)).mono HB.out.size))
      clear hat hx hfar hae hbf
      go_wp2_with (first | (at_delete; refine wpList_delete_own _ rfl _ _ 46 31 rfl 3 HLw.out Try.underlying46 rawI w.heap.size n0 D rfl (HO.out.alloc _) _ _ rfl HK.out ?_; intro w3 hown3 hturn3; have HO3 := Lib.hid hown3; have HG3 := Lib.hid hturn3.grown; clear hown3 hturn3) | go_in)
      have HB3 := Lib.hid (HBx.out.grown HG3.out HBx.out.size (fun j hj => by cases hj; exact Nat.le_refl _))
      have hsz3 : w1.heap.size ≤ (wr.alloc (.cells #[.int .i8 x.ad.f, .int .u16 x.ad.g0, .int .u16 x.ad.g1, .int .u16 x.ad.g2, .int .u16 x.ad.g3, .int .u16 x.ad.g4, .int .u16 x.ad.g5, .int .u16 x.ad.g6, .int .u16 x.ad.g7, .int .i64 x.ad.p, .int .i64 x.at_] 33)).heap.size := Nat.le_trans HS.out (below1 wr _).size
      have HF3 := Lib.hid (far_grown (HFa.out.below (below1 wr (.cells #[.int .i8 x.ad.f, .int .u16 x.ad.g0, .int .u16 x.ad.g1, .int .u16 x.ad.g2, .int .u16 x.ad.g3, .int .u16 x.ad.g4, .int .u16 x.ad.g5, .int .u16 x.ad.g6, .int .u16 x.ad.g7, .int .i64 x.ad.p, .int .i64 x.at_] 33))) HG3.out hlt1)
      rw [HAE.out] at HF3
      exact ⟨⟨k + 1, _, by go_num, by omega, HO3, Lib.hid (leftTo_step HLe.out HX.out HOa.out), HF3, Lib.hid (Nat.le_trans hsz3 HG3.out.size), HB3⟩, by simp [intOf]; omega⟩
    · obtain rfl : k = F.length := by omega
      have HRe := Lib.hid (HRr.out D (HO.out.canon HLw.out) HLe.out)
      go_wp2_with (first | (at_len; refine wpList_len_own _ rfl _ 46 rfl 31 3 Try.underlying46 rawI w.heap.size n0 D rfl HO.out ?_) | go_in)
      go_ret
      exact ⟨by rw [HRe.out]; rfl, HB.out⟩
set_option maxHeartbeats 4000000 in
set_option maxRecDepth 1000000 in
theorem worst_own (l : List Sc) (g n : Int) (s : Option Addr) (c : Nat) (x : Ad) (r : Bool) (w : World) (hx : x = worstA l g n) (hr : r = worstB l g n) (hl : l.length ≤ 1000) (hR : SK.RowC w s c l) :
    Calls Try.prog 14 #[.slice s l.length c, .int .i64 g, .int .i64 n] w fun e w' => e = .returned (.tuple #[.agg #[.int .i8 x.f, .int .u16 x.g0, .int .u16 x.g1, .int .u16 x.g2, .int .u16 x.g3, .int .u16 x.g4, .int .u16 x.g5, .int .u16 x.g6, .int .u16 x.g7, .int .i64 x.p], .bool r]) ∧ Below w.heap.size w w' := by
  have HXX := Lib.hid hx
  have HRR := Lib.hid hr
  have HR := Lib.hid hR
  clear hx hr hR
  obtain ⟨F, hF⟩ : ∃ F, F = freshS l g n := ⟨_, rfl⟩
  have hFl : F.length ≤ 1000 := by rw [hF]; exact Nat.le_trans (fresh_len _ _ _) hl
  have HFr := Lib.hid (fun (W : World) (h : Below w.heap.size w W) => fresh_own l g n s c F W hF hl (HR.out.below h))
  have HFF := Lib.hid hF
  clear hF
  by_cases h0 : F.length = 0
  · have hn : worstS l g n = none := by unfold worstS; rw [← HFF.out, List.eq_nil_of_length_eq_zero h0]; rfl
    have H1 := Lib.hid (show x = Ad.zero by rw [HXX.out]; unfold worstA; rw [hn])
    have H2 := Lib.hid (show r = false by rw [HRR.out]; unfold worstB; rw [hn]; rfl)
    clear hn
    go_enter Try.func14, Try.ntmps14
    go_wp2_with fail
    (with_reducible refine (HFr.out _ (below1 _ _)).mono ?_)
    rintro e wF ⟨af, cf, rfl, hOF, hbF⟩
    have HZ := Lib.hid ((hbF.block _ (by simp)).trans (laid1 w (.cells #[.int .i8 0, .int .u16 0, .int .u16 0, .int .u16 0, .int .u16 0, .int .u16 0, .int .u16 0, .int .u16 0, .int .u16 0, .int .i64 0] 31)))
    have HBF := Lib.hid ((below1 w (.cells #[.int .i8 0, .int .u16 0, .int .u16 0, .int .u16 0, .int .u16 0, .int .u16 0, .int .u16 0, .int .u16 0, .int .u16 0, .int .i64 0] 31)).trans (hbF.mono (by simp)))
    have HOF := Lib.hid hOF.row
    clear hOF hbF HFr
    obtain ⟨⟨x0, x1, x2, x3, x4, x5, x6, x7, x8, x9⟩, y0, y1, y2, y3, y4, y5, y6, y7, y8, y9⟩ := boxes10 HZ.out
    go_wp2_with fail
    obtain rfl := H1.out
    obtain rfl := H2.out
    refine bodyPost_ret (res_cell_tmp rfl _ _ _ w.heap.size rfl _ (load_Ad (x := Ad.zero) (set10_at HZ.out _ _ _ _ _ _ _ _ _ _))) rfl ?_
    exact ⟨rfl, set10_below HBF.out (Nat.le_refl _) _ _ _ _ _ _ _ _ _ _⟩
  · obtain ⟨G, hG⟩ : ∃ G : Nat, F.length = G + 1 := ⟨F.length - 1, by omega⟩
    obtain ⟨y, hy⟩ : ∃ y, F[G]? = some y := ⟨_, List.getElem?_eq_getElem (by omega)⟩
    have hn : worstS l g n = some y := by unfold worstS; rw [← HFF.out, List.getLast?_eq_getElem?, hG]; exact hy
    have H1 := Lib.hid (show x = y.ad by rw [HXX.out]; unfold worstA; rw [hn])
    have H2 := Lib.hid (show r = true by rw [HRR.out]; unfold worstB; rw [hn]; rfl)
    have hw : IntKind.i64.wrap ((F.length : Int) - 1) = (G : Int) := by rw [IntKind.wrap_i64]; omega
    have hgl : (G : Int) < (F.length : Int) := by omega
    have hg0 : (0 : Int) ≤ (G : Int) := by omega
    have HY := Lib.hid hy
    have HG := Lib.hid hG
    clear hn hy hG
    go_enter Try.func14, Try.ntmps14
    go_wp2_with fail
    (with_reducible refine (HFr.out _ (below1 _ _)).mono ?_)
    rintro e wF ⟨af, cf, rfl, hOF, hbF⟩
    have HZ := Lib.hid ((hbF.block _ (by simp)).trans (laid1 w (.cells #[.int .i8 0, .int .u16 0, .int .u16 0, .int .u16 0, .int .u16 0, .int .u16 0, .int .u16 0, .int .u16 0, .int .u16 0, .int .i64 0] 31)))
    have HBF := Lib.hid ((below1 w (.cells #[.int .i8 0, .int .u16 0, .int .u16 0, .int .u16 0, .int .u16 0, .int .u16 0, .int .u16 0, .int .u16 0, .int .u16 0, .int .i64 0] 31)).trans (hbF.mono (by simp)))
    have HOF := Lib.hid hOF.row
    clear hOF hbF HFr
    obtain ⟨⟨x0, x1, x2, x3, x4, x5, x6, x7, x8, x9⟩, y0, y1, y2, y3, y4, y5, y6, y7, y8, y9⟩ := boxes10 HZ.out
    obtain ⟨b, o, rfl, hb, hat⟩ := HOF.out.2.2.2 (by omega)
    obtain ⟨c0, c1, c2, c3, c4, c5, c6, c7, c8, c9, c10⟩ := SK.cells hat HY.out
    go_wp2_with fail
    obtain rfl := H1.out
    obtain rfl := H2.out
    refine bodyPost_ret (res_cell_tmp rfl _ _ _ w.heap.size rfl _ (load_Ad (x := y.ad) (set10_at HZ.out _ _ _ _ _ _ _ _ _ _))) rfl ?_
    exact ⟨rfl, set10_below HBF.out (Nat.le_refl _) _ _ _ _ _ _ _ _ _ _⟩
set_option maxHeartbeats 8000000 in
set_option maxRecDepth 1000000 in
theorem equal_any (l m : List Sc) (a b : Option Addr) (c d : Nat) (r : Bool) (w : World) (hr : r = decide (l = m)) (hA : SK.RowC w a c l) (hB : SK.RowC w b d m) :
    Calls Try.prog 23 #[.slice a l.length c, .slice b m.length d] w fun e w' => e = .returned (.bool r) ∧ Below w.heap.size w w' := by
  have HA := Lib.hid hA
  have HB := Lib.hid hB
  have HR := Lib.hid hr
  have hmx : l.length ≤ 9223372036854775807 := by have h1 := hA.1; have h2 := hA.2.1; unfold maxLen at h2; omega
  have hmy : m.length ≤ 9223372036854775807 := by have h1 := hB.1; have h2 := hB.2.1; unfold maxLen at h2; omega
  clear hA hB hr
  go_enter Try.func23, Try.ntmps23
  by_cases hlm : l.length = m.length
  · go_wp2_with fail
    go_loopw [13] (fun i wr => ∃ k q : Nat, k ≤ l.length ∧ i = .int .i64 k ∧ Hid (l.take k = m.take k) ∧ wr = w.drewN q) (fun i _ => l.length - (intOf i).toNat)
    case atStart => exact ⟨0, 0, by omega, rfl, Lib.hid rfl, rfl⟩
    case round =>
      obtain ⟨k, q, hk, rfl, he, rfl⟩ := hrel
      have HE := Lib.hid he.out
      clear he
      by_cases hlt : k < l.length
      · obtain ⟨b1, o1, rfl, hb1, hat1⟩ := HA.out.2.2.2 (by omega)
        obtain ⟨b2, o2, rfl, hb2, hat2⟩ := HB.out.2.2.2 (by omega)
        obtain ⟨x, hx⟩ : ∃ x, l[k]? = some x := ⟨_, List.getElem?_eq_getElem hlt⟩
        obtain ⟨y, hy⟩ : ∃ y, m[k]? = some y := ⟨_, List.getElem?_eq_getElem (by omega)⟩
        obtain ⟨c0, c1, c2, c3, c4, c5, c6, c7, c8, c9, c10⟩ := SK.cells hat1 hx
        obtain ⟨d0, d1, d2, d3, d4, d5, d6, d7, d8, d9, d10⟩ := SK.cells hat2 hy
        have hnq := neq_sc x y
        have hgd := guard_sc
        have HX := Lib.hid hx
        have HY := Lib.hid hy
        clear hx hy hat1 hat2
        by_cases hxy : x = y
        · have hd : decide (x ≠ y) = false := by simp [hxy]
          have HD := Lib.hid (show l.take (k + 1) = m.take (k + 1) by rw [List.take_add_one, List.take_add_one, HE.out, HX.out, HY.out, hxy])
          rw [hd] at hnq
          clear hd hxy
          go_wp2_with fail
          go_quiet (fail)
          go_wp2_with fail
          go_roundw
          case rel => exact ⟨k + 1, _, by omega, by go_num, HD, rfl⟩
          case measure => simp [intOf]; omega
        · have hd : decide (x ≠ y) = true := by simp [hxy]
          have HD := Lib.hid (show r = false by rw [HR.out]; exact decide_eq_false (fun e => hxy (by have := HX.out; rw [e, HY.out] at this; exact (Option.some.inj this).symm)))
          rw [hd] at hnq
          clear hd hxy
          go_wp2_with fail
          go_quiet (fail)
          go_wp2_with fail
          go_ret
          exact ⟨by rw [HD.out]; rfl, below_drewN (below_drewN (Below.refl _ _) _) _⟩
      · obtain rfl : k = l.length := by omega
        have HD := Lib.hid (show r = true by rw [HR.out]; exact decide_eq_true (by have := HE.out; rwa [List.take_length, hlm, List.take_length] at this))
        go_wp2_with fail
        go_ret
        exact ⟨by rw [HD.out]; rfl, below_drewN (Below.refl _ _) q⟩
  · have HD := Lib.hid (show r = false by rw [HR.out]; exact decide_eq_false (fun e => hlm (by rw [e])))
    go_wp2_with fail
    go_ret
    exact ⟨by rw [HD.out]; rfl, Below.refl _ _⟩
set_option maxHeartbeats 8000000 in
set_option maxRecDepth 1000000 in
theorem same_spec : SameSpec := by
  intro l m a b c d r w hr _ _ hA hB
  have HC := Lib.hid (equal_any l m a b c d r w hr hA hB)
  clear hr hA hB
  go_enter Try.func16, Try.ntmps16
  go_wp2_with fail
  (with_reducible refine HC.out.mono ?_)
  rintro e w1 ⟨rfl, hb⟩
  go_wp2_with fail
  go_ret
  exact ⟨rfl, hb⟩
theorem worst_spec : WorstSpec := fun l g n s c x r w hx hr hl hR => worst_own l g n s c x r w hx hr (by omega) hR
theorem has_spec : HasSpec := fun l g n ds s v c d r w ⟨hr, hol, hod⟩ hl hd hR hD => has_own l g n ds s v c d r w hr hl hd hol hod hR hD
end Go.Proofs.Ytipbkhbdnjhofaa
