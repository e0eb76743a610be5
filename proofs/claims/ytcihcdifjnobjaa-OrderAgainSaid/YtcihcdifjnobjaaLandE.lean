/- The landed order: the families. -/
import Derived.Test.YtcihcdifjnobjaaLandD
set_option linter.unusedSimpArgs false
set_option linter.unusedVariables false
namespace Go.Proofs.Ytcihcdifjnobjaa
open Go.RowKit Go.Maps Go.Proofs.Ytcihcdifjnobjaa.Kind

theorem load10 {w : World} {b : Nat} {x : Ad} {t : TypeId} (h : w.heap[b]? = some (.cells #[.int .i8 x.f, .int .u16 x.g0, .int .u16 x.g1, .int .u16 x.g2, .int .u16 x.g3, .int .u16 x.g4, .int .u16 x.g5, .int .u16 x.g6, .int .u16 x.g7, .int .i64 x.p] t (0, 0))) :
    (loadVar 27 ⟨b, 0, none⟩).run Try.prog w = .ok (.agg #[.int .i8 x.f, .int .u16 x.g0, .int .u16 x.g1, .int .u16 x.g2, .int .u16 x.g3, .int .u16 x.g4, .int .u16 x.g5, .int .u16 x.g6, .int .u16 x.g7, .int .i64 x.p]) w := by
  obtain ⟨⟨h0, h1, h2, h3, h4, h5, h6, h7, h8, h9⟩, _⟩ := boxes10 h
  have a3 := Try.isAgg27
  have z3 := Try.sizeOf27
  have a4 := Try.isAgg25
  have z4 := Try.sizeOf25
  clear h
  simp [loadVar, go_sem, *]
theorem HK.one {w : World} {b o : Nat} {l : List Hv} (h : HK.At w b o l) {j : Nat} {x : Hv} (hx : l[j]? = some x) : w.cell? ⟨b, o + j, none⟩ = some (.slice x.a x.n x.c) := by
  have h1 := h j x hx 0 _ rfl
  have e : o + j * HK.k + 0 = o + j := by show o + j * 1 + 0 = o + j; omega
  rwa [e] at h1
theorem Fams.cell {w : World} {base g o : Nat} {c : Nat} {hs : List Hv} {Q : List (List Ad)} (h : Fams w base (some ⟨g, o, none⟩) c hs Q) {j : Nat} {x : Hv} (hj : hs[j]? = some x) : w.cell? ⟨g, o + j, none⟩ = some (.slice x.a x.n x.c) := by
  obtain ⟨g2, o2, e, _, hat⟩ := h.row.row.2.2.2 (by have := (List.getElem?_eq_some_iff.1 hj).1; omega)
  injection e with e
  injection e with e1 e2
  subst e1 e2
  exact HK.one hat hj
theorem Fams.put1 {W W' w5 : World} {base g o : Nat} {a5 : Option Addr} {c c5 : Nat} {hs : List Hv} {Q : List (List Ad)} (h : Fams W base (some ⟨g, o, none⟩) c hs Q) (hW : Below W.heap.size W W') {j : Nat} {x : Hv} {L M : List Ad} (hj : hs[j]? = some x) (hL : Q[j]? = some L)
    (hO : PK.Loose w5 base a5 c5 M) (hG : ∃ row, W'.grownBy w5 row ∧ ∀ j, row = some j → base ≤ j ∧ 0 < x.c ∧ ∃ ad, x.a = some ad ∧ ad.block = j) (hP : (∃ g, a5 = some ⟨g, 0, none⟩ ∧ W'.heap.size ≤ g) ∨ (a5 = x.a ∧ 0 < x.c)) :
    w5.cell? ⟨g, o + j, none⟩ = some (.slice x.a x.n x.c) ∧ w5.frozen? ⟨g, o + j, none⟩ = false ∧ Fams (w5.setCell ⟨g, o + j, none⟩ (.slice a5 M.length c5)) base (some ⟨g, o, none⟩) c (hs.set j ⟨a5, M.length, c5⟩) (Q.set j M) := by
  obtain ⟨g2, o2, e, _, _, h1, h2, h3⟩ := h.put hW hj hL hO hG hP
  injection e with e
  injection e with e1 e2
  subst e1 e2
  exact ⟨h1, h2, h3⟩
theorem Fams.grow {w w' : World} {base : Nat} {a : Option Addr} {c : Nat} {hs : List Hv} {Q : List (List Ad)} (h : Fams w base a c hs Q) {row : Option Nat} (hg : w.grownBy w' row) (hr : ∀ j, row = some j → j < base) : Fams w' base a c hs Q :=
  ⟨grown_same (b2 := base) h.row hg (fun hc x e e2 => by have := (h.row.lt hc e).1; have := hr _ e2; omega), h.len, fun j x L hj hL => ⟨(h.el j x L hj hL).1, grown_same (b2 := base) (h.el j x L hj hL).2 hg (fun hc y e e2 => by have := ((h.el j x L hj hL).2.lt hc e).1; have := hr _ e2; omega)⟩, h.ap, h.two⟩
theorem fam_le (l : List Ad) (f : Int) (k : Nat) (hk : k ≤ l.length) (hl : l.length ≤ 400) : (Turn.fq famA (l.take k) f).length ≤ 400 := by
  have h1 : (Turn.fq famA (l.take k) f).length ≤ (l.take k).length := List.length_filter_le _ _
  have h2 : (l.take k).length ≤ k := by rw [List.length_take]; omega
  omega

set_option maxHeartbeats 16000000 in
set_option maxRecDepth 1000000 in
theorem families_any (l : List Ad) (s : Option Addr) (c : Nat) (w : World) (hl : l.length ≤ 400) (hd : OkL l) (hR : AK.RowC w s c l) :
    Calls Try.prog 23 #[.slice s l.length c] w fun e w' => ∃ a1 c1 hs, e = .returned (.slice a1 (fams l).length c1) ∧ Fams w' (w.heap.size + 1) a1 c1 hs (fams l) ∧ Below w.heap.size w w' := by
  have HR := Lib.hid hR
  have HOk := Lib.hid hd
  have HLw := Lib.hid law_fam
  have hmm := @run_makeMap Try.prog
  have HO0 := Lib.hid (World.ownsMap_made w Try.prog 23 rawI)
  clear hR hd
  go_enter Try.func23, Try.ntmps23
  go_wp2_with fail
  go_loopw [3, 12] (fun r i wr => ∃ (k n m c1 : Nat) (a1 : Option Addr) (D : DataW Unit) (hs : List Hv), r = .slice a1 m c1 ∧ i = .int .i64 k ∧ k ≤ l.length ∧ m ≤ k ∧ Hid (n ≤ k) ∧ Hid (m = (Turn.kinds famA (l.take k)).length) ∧ Hid (wr.ownsMap Try.prog 23 rawI w.heap.size n D) ∧ Hid (FamTo (Turn.kinds famA (l.take k)) D) ∧ Hid (Fams wr (w.heap.size + 1) a1 c1 hs (fams (l.take k))) ∧ Hid (Below w.heap.size w wr)) (fun _ i _ => l.length - (intOf i).toNat)
  case atStart => exact ⟨0, 0, 0, 0, none, _, [], rfl, rfl, by omega, by omega, Lib.hid (Nat.le_refl _), Lib.hid rfl, HO0, Lib.hid famTo_nil, Lib.hid (fams_nil _ _), Lib.hid (below1 _ _)⟩
  case round =>
    obtain ⟨k, n, m, c1, a1, D, hs, rfl, rfl, hk, hmk, hn, hm, ho, hh, hF, hb0⟩ := hrel
    have HN0 := Lib.hid hn.out
    have HM := Lib.hid hm.out
    have HO := Lib.hid ho.out
    have HH := Lib.hid hh.out
    have HF := Lib.hid hF.out
    have HB := Lib.hid hb0.out
    have hsz := HB.out.size
    have hmb := HO.out.lt
    clear ho hh hb0 hn hm hF
    by_cases hlt : k < l.length
    · obtain ⟨b, o, rfl, hb, hat⟩ := HR.out.2.2.2 (by omega)
      obtain ⟨x, hx⟩ : ∃ x, l[k]? = some x := ⟨_, List.getElem?_eq_getElem hlt⟩
      obtain ⟨⟨y0, y1, y2, y3, y4⟩, y5, y6, y7, y8, y9⟩ := AK.ten (hat.below HB.out hb) hx
      have hok := (HOk.out x (List.mem_of_getElem? hx)).1
      have HKy := Lib.hid (key_fam hok)
      have hfm := HH.out x.f hok
      have HT := Lib.hid (take_next hx)
      have HIs := Lib.hid ((HO.out.tidy HLw.out).isMap)
      obtain ⟨W1, hW1⟩ : ∃ W1, W1 = wr.alloc (.cells #[.int .i8 x.f, .int .u16 x.g0, .int .u16 x.g1, .int .u16 x.g2, .int .u16 x.g3, .int .u16 x.g4, .int .u16 x.g5, .int .u16 x.g6, .int .u16 x.g7, .int .i64 x.p] 27) := ⟨_, rfl⟩
      have hb1 := below1 wr (.cells #[.int .i8 x.f, .int .u16 x.g0, .int .u16 x.g1, .int .u16 x.g2, .int .u16 x.g3, .int .u16 x.g4, .int .u16 x.g5, .int .u16 x.g6, .int .u16 x.g7, .int .i64 x.p] 27)
      have hlz := laid1 wr (.cells #[.int .i8 x.f, .int .u16 x.g0, .int .u16 x.g1, .int .u16 x.g2, .int .u16 x.g3, .int .u16 x.g4, .int .u16 x.g5, .int .u16 x.g6, .int .u16 x.g7, .int .i64 x.p] 27)
      have HO1 := Lib.hid (HO.out.alloc (.cells #[.int .i8 x.f, .int .u16 x.g0, .int .u16 x.g1, .int .u16 x.g2, .int .u16 x.g3, .int .u16 x.g4, .int .u16 x.g5, .int .u16 x.g6, .int .u16 x.g7, .int .i64 x.p] 27))
      rw [← hW1] at hb1 hlz HO1
      have HG1 := Lib.hid hlz
      have HF1 := Lib.hid (HF.out.below hb1)
      have HB1 := Lib.hid hb1
      have hs1 : wr.heap.size < W1.heap.size := lt_of_block hlz
      obtain ⟨⟨z0, z1, z2, z3, z4, z5, z6, z7, z8, z9⟩, _⟩ := boxes10 HG1.out
      clear hat hx hb1 hlz hok
      by_cases hin : x.f ∈ Turn.kinds famA (l.take k)
      · obtain ⟨j, hj⟩ : ∃ j, j = (Turn.kinds famA (l.take k)).idxOf x.f := ⟨_, rfl⟩
        have hjm : j < m := by rw [hj, HM.out]; exact List.idxOf_lt_length_of_mem hin
        have hj1 : (j : Int) < (m : Int) := by omega
        have hj2 : (0 : Int) ≤ (j : Int) := by omega
        rw [decide_eq_true hin, if_pos hin, ← hj] at hfm
        have HHas := Lib.hid hfm.1
        have HAt := Lib.hid hfm.2
        have hq := fams_at hin
        rw [← hj] at hq
        have HQ := Lib.hid hq
        obtain ⟨hv, hhv⟩ := HF1.out.has hq
        have HJ := Lib.hid hhv
        have hst := fams_old hin
        rw [← hj, ← HT.out] at hst
        have HS := Lib.hid hst
        have HKs := Lib.hid (show Turn.kinds famA (l.take (k + 1)) = Turn.kinds famA (l.take k) by rw [HT.out, kinds_snoc, if_pos hin])
        have HQl := Lib.hid (fam_le l x.f k hk hl)
        obtain ⟨L, hL⟩ : ∃ L, L = Turn.fq famA (l.take k) x.f := ⟨_, rfl⟩
        obtain ⟨M, hM⟩ : ∃ M, M = L ++ [x] := ⟨_, rfl⟩
        rw [← hL] at HQ HQl HS
        rw [← hM] at HS
        have HML := Lib.hid hM
        obtain ⟨g, o2, rfl⟩ : ∃ g o2, a1 = some ⟨g, o2, none⟩ := by
          obtain ⟨g, o2, e, _⟩ := HF1.out.row.2.2.2 (by have := HF1.out.row.1; have := (List.getElem?_eq_some_iff.1 hhv).1; omega)
          exact ⟨g, o2, e⟩
        have hgb : w.heap.size + 1 ≤ g := (HF1.out.row.lt (by have := HF1.out.row.1; have := (List.getElem?_eq_some_iff.1 hhv).1; omega) rfl).1
        have HFm := HF1
        have HGx := HG1
        clear hfm hq hhv hst hin hj hL hM
        go_upto_region 7 with (first | (at_lookup; refine wpList_look_at _ rfl _ _ 56 rfl 23 3 HLw.out Try.underlying56 (zero_i64 _) w.heap.size n D rfl (HO.out.alloc _) _ _ rfl HKy.out (j : Int) true HAt.out HHas.out ?_) | go_in)
        rw [← hW1]
        clear hW1 y0 y1 y2 y3 y4 y5 y6 y7 y8 y9 z0 z1 z2 z3 z4 z5 z6 z7 z8 z9
        go_wp2_with fail
        obtain ⟨⟨k0, k1, k2, k3, k4, k5, k6, k7, k8, k9⟩, _⟩ := boxes10 HGx.out
        have hld := load10 HGx.out
        obtain ⟨hn, hlo⟩ := HFm.out.el _ _ _ HJ.out HQ.out
        have hcell := (HFm.out.cell HJ.out)
        have hlt2 : g < W1.heap.size := (HFm.out.row.lt (by have := HFm.out.row.1; have := (List.getElem?_eq_some_iff.1 HJ.out).1; omega) rfl).2
        have hbd : Below W1.heap.size W1 (W1.alloc (.cells #[.iface 27 (.agg #[.int .i8 x.f, .int .u16 x.g0, .int .u16 x.g1, .int .u16 x.g2, .int .u16 x.g3, .int .u16 x.g4, .int .u16 x.g5, .int .u16 x.g6, .int .u16 x.g7, .int .i64 x.p])] 20)).drew := ((Below.refl _ W1).alloc (Nat.le_refl _) _).drew
        have hcell2 : (W1.alloc (.cells #[.iface 27 (.agg #[.int .i8 x.f, .int .u16 x.g0, .int .u16 x.g1, .int .u16 x.g2, .int .u16 x.g3, .int .u16 x.g4, .int .u16 x.g5, .int .u16 x.g6, .int .u16 x.g7, .int .i64 x.p])] 20)).cell? ⟨g, o2 + j, none⟩ = some (.slice hv.a hv.n hv.c) := ((below1 W1 (.cells #[.iface 27 (.agg #[.int .i8 x.f, .int .u16 x.g0, .int .u16 x.g1, .int .u16 x.g2, .int .u16 x.g3, .int .u16 x.g4, .int .u16 x.g5, .int .u16 x.g6, .int .u16 x.g7, .int .i64 x.p])] 20)).cell (p := ⟨g, o2 + j, none⟩) hlt2).trans hcell
        have HRw := Lib.hid (show PK.RowC (W1.alloc (.cells #[.iface 27 (.agg #[.int .i8 x.f, .int .u16 x.g0, .int .u16 x.g1, .int .u16 x.g2, .int .u16 x.g3, .int .u16 x.g4, .int .u16 x.g5, .int .u16 x.g6, .int .u16 x.g7, .int .i64 x.p])] 20)).drew (some ⟨W1.heap.size, 0, none⟩) 1 [x] from rowC_at (K := PK) W1 20 [x] _ W1.heap.size 1 rfl rfl rfl (by simp))
        obtain ⟨wd, hwd⟩ : ∃ X, X = (W1.alloc (.cells #[.iface 27 (.agg #[.int .i8 x.f, .int .u16 x.g0, .int .u16 x.g1, .int .u16 x.g2, .int .u16 x.g3, .int .u16 x.g4, .int .u16 x.g5, .int .u16 x.g6, .int .u16 x.g7, .int .i64 x.p])] 20)).drew := ⟨_, rfl⟩
        have HLo := Lib.hid (hlo.below hbd)
        have HBd := Lib.hid hbd
        rw [← hwd] at HLo HBd HRw
        have HW := Lib.hid hwd
        have HN := Lib.hid hn
        have hbs : w.heap.size + 1 ≤ wd.heap.size := by have := HBd.out.size; omega
        have hMl : L.length ≤ 400 := HQl.out
        clear hwd hbd hn hlo
        go_region_law (first | (rw [← HW.out]; refine PK.step_append_loose rfl _ _ rfl (w.heap.size + 1) hv.a hv.n hv.c rfl L HN.out HLo.out (some ⟨W1.heap.size, 0, none⟩) 1 1 rfl [x] rfl (by simp) HRw.out (by simp; omega) hbs M HML.out ?_; intro a9 c9 wz hO9 hG9 hP9; obtain ⟨hz1, hz2, hF9⟩ := HFm.out.put1 HBd.out HJ.out HQ.out hO9 hG9 hP9))
        all_goals
          obtain ⟨row9, hgr9, hrow9⟩ := hG9
          have hbl : Below (w.heap.size + 1) W1 wz := (HBd.out.mono (by omega)).trans ((Below.refl _ wd).grown hgr9 hbs (fun k e => (hrow9 k e).1))
          have hb9 := hbl.setCell (p := ⟨g, o2 + j, none⟩) (by dsimp only; omega) (.slice a9 M.length c9)
          obtain ⟨qz, hqz⟩ : ∃ X, X = wz.setCell ⟨g, o2 + j, none⟩ (.slice a9 M.length c9) := ⟨_, rfl⟩
          rw [← hqz] at hF9 hb9 ⊢
          have HF9 := Lib.hid hF9
          have HB9 := Lib.hid hb9
          clear hqz hF9 hb9 hbl hgr9 hrow9 hP9 hO9 hz1 hz2 k0 k1 k2 k3 k4 k5 k6 k7 k8 k9 hld hcell hcell2
          have HMp := Lib.hid (map_below2 HO1.out HB9.out (Nat.lt_succ_self _))
          go_wp2_with fail
          go_roundw
          case rel => exact ⟨k + 1, n, m, c1, _, D, _, rfl, by go_num, by omega, by omega, Lib.hid (by have := HN0.out; omega), Lib.hid (by rw [HKs.out]; exact HM.out), HMp, Lib.hid (by rw [HKs.out]; exact HH.out), Lib.hid (by rw [HS.out]; exact HF9.out), Lib.hid (HB.out.trans ((HB1.out.mono hsz).trans (HB9.out.mono (by omega))))⟩
          case measure => simp [intOf]; omega
      · obtain ⟨j, hj⟩ : ∃ j, j = m := ⟨_, rfl⟩
        rw [decide_eq_false hin, if_neg hin] at hfm
        have HHas := Lib.hid hfm.1
        have HAt := Lib.hid hfm.2
        have hst := fams_new hin
        rw [← HT.out, fams_len, ← HM.out] at hst
        have HS := Lib.hid hst
        have HKs := Lib.hid (show Turn.kinds famA (l.take (k + 1)) = Turn.kinds famA (l.take k) ++ [x.f] by rw [HT.out, kinds_snoc, if_neg hin])
        have HPut := Lib.hid (famTo_put HH.out HIs.out hin)
        rw [← HM.out] at HPut
        have hk5 := kinds_le l (k + 1)
        have hhl : hs.length = m := by rw [HF1.out.len, fams_len, ← HM.out]
        clear hfm hst hin
        go_upto_region 7 with (first | (at_lookup; refine wpList_look_at _ rfl _ _ 56 rfl 23 3 HLw.out Try.underlying56 (zero_i64 _) w.heap.size n D rfl (HO.out.alloc _) _ _ rfl HKy.out 0 false HAt.out HHas.out ?_) | go_in)
        rw [← hW1]
        clear hW1 y0 y1 y2 y3 y4 y5 y6 y7 y8 y9
        go_upto_region 10 with (first | (at_mapUpdate; refine wpList_mapUpdate_own _ rfl _ _ _ 56 rfl 23 3 HLw.out Try.underlying56 _ w.heap.size n D rfl HO1.out (by have := HN0.out; unfold maxLen; omega) _ _ _ rfl rfl HKy.out (.lit (.int .i64 (m : Int))) [] rfl ?_; intro w2 hown2 hgr2; have HO2 := Lib.hid hown2; have HF2 := Lib.hid (HF1.out.grow hgr2 (fun j e => by injection e with e; omega)); have HB2 := Lib.hid ((Below.refl w.heap.size W1).grown hgr2 (by omega) (fun j e => by injection e with e; omega)); have HG2 := Lib.hid ((hgr2.block wr.heap.size hs1 (by intro e; injection e with e; omega)).trans HG1.out); have hs2 := hgr2.size; clear hown2 hgr2) | go_in)
        obtain ⟨hs2, hhs2⟩ : ∃ hs2, hs2 = hs ++ [(⟨none, 0, 0⟩ : Hv)] := ⟨_, rfl⟩
        have hl2 : hs2.length = m + 1 := by rw [hhs2]; simp [hhl]
        have HHS := Lib.hid hhs2
        have hmw : w2.heap.size ≤ (w2.alloc (.cells #[.slice none 0 0] 49)).heap.size := by simp
        clear hhs2
        go_wp2_with (at_builtin; go_loud (refine HK.wpList_append_loose rfl _ _ rfl (w.heap.size + 1) a1 m c1 rfl hs hhl.symm (HF2.out.row.below (below1 w2 _)) (some ⟨w2.heap.size, 0, none⟩) 1 1 rfl [⟨none, 0, 0⟩] rfl (by simp) (rowC_at (K := HK) w2 49 [⟨none, 0, 0⟩] _ _ 1 rfl rfl rfl (by simp)) (by simp; omega) (by simp; omega) hs2 HHS.out ?_; intro a3 c3 w3 hO3 hG3 hP3; have HF3 := Lib.hid (show Fams w3 (w.heap.size + 1) a3 c3 hs2 (fams (l.take k) ++ [[]]) by rw [HHS.out] at hO3 ⊢; exact (HF2.out.below (below1 w2 (.cells #[.slice none 0 0] 49))).more hO3 hG3 hP3); obtain ⟨row3, hgr3, hrow3⟩ := hG3; have HG3 := Lib.hid ((hgr3.block wr.heap.size (by omega) (fun e => by obtain ⟨_, hc1, ad, e2, e3⟩ := hrow3 _ e.symm; have := (HF.out.row.lt hc1 e2).2; omega)).trans (((below1 w2 (.cells #[.slice none 0 0] 49)).block wr.heap.size (by omega)).trans HG2.out)); have HB3 := Lib.hid (((below1 w2 (.cells #[.slice none 0 0] 49)).mono (show w.heap.size + 1 ≤ w2.heap.size by omega)).trans ((Below.refl (w.heap.size + 1) (w2.alloc (.cells #[.slice none 0 0] 49))).grown hgr3 (by omega) (fun j e => (hrow3 j e).1))); have hs3 := hgr3.size; clear hO3 hgr3 hrow3 hP3))
        have HO3 := Lib.hid (map_below2 HO2.out HB3.out (Nat.lt_succ_self _))
        have hc3 := HF3.out.row.1
        obtain ⟨g, o2, rfl⟩ : ∃ g o2, a3 = some ⟨g, o2, none⟩ := by
          obtain ⟨g, o2, e, _⟩ := HF3.out.row.2.2.2 (by omega)
          exact ⟨g, o2, e⟩
        have hgb : w.heap.size + 1 ≤ g := (HF3.out.row.lt (by omega) rfl).1
        obtain ⟨hv, hv0⟩ : ∃ hv : Hv, hv = ⟨none, 0, 0⟩ := ⟨_, rfl⟩
        obtain ⟨L, hL⟩ : ∃ L : List Ad, L = [] := ⟨_, rfl⟩
        obtain ⟨M, hM⟩ : ∃ M, M = L ++ [x] := ⟨_, rfl⟩
        obtain ⟨Q, hQ⟩ : ∃ Q, Q = fams (l.take k) ++ [[]] := ⟨_, rfl⟩
        have HML := Lib.hid hM
        have HJ := Lib.hid (show hs2[m]? = some hv by rw [HHS.out, hv0, ← hhl]; simp)
        have HQ := Lib.hid (show Q[m]? = some L by rw [hQ, hL, HM.out, ← fams_len]; simp)
        have hss := HS.out
        rw [← hQ, show [x] = M by rw [hM, hL]; rfl] at hss
        have HS2 := Lib.hid hss
        have HQl := Lib.hid (show L.length ≤ 400 by rw [hL]; simp)
        have hff := HF3.out
        rw [← hQ] at hff
        have HFm := Lib.hid hff
        have HGx := HG3
        have hj1 : (m : Int) < (m : Int) + 1 := by omega
        have hj2 : (0 : Int) ≤ (m : Int) := by omega
        have HM2 := Lib.hid (show m + 1 = (Turn.kinds famA (l.take (k + 1))).length by rw [HKs.out, HM.out]; simp)
        clear hL hM hQ hss hff hv0 HF3 HG3 HS hj
        obtain ⟨⟨k0, k1, k2, k3, k4, k5, k6, k7, k8, k9⟩, _⟩ := boxes10 HGx.out
        have hld := load10 HGx.out
        obtain ⟨hn, hlo⟩ := HFm.out.el _ _ _ HJ.out HQ.out
        have hcell := (HFm.out.cell HJ.out)
        have hlt2 : g < w3.heap.size := (HFm.out.row.lt (by have := HFm.out.row.1; have := (List.getElem?_eq_some_iff.1 HJ.out).1; omega) rfl).2
        have hbd : Below w3.heap.size w3 (w3.alloc (.cells #[.iface 27 (.agg #[.int .i8 x.f, .int .u16 x.g0, .int .u16 x.g1, .int .u16 x.g2, .int .u16 x.g3, .int .u16 x.g4, .int .u16 x.g5, .int .u16 x.g6, .int .u16 x.g7, .int .i64 x.p])] 20)).drew := ((Below.refl _ w3).alloc (Nat.le_refl _) _).drew
        have hcell2 : (w3.alloc (.cells #[.iface 27 (.agg #[.int .i8 x.f, .int .u16 x.g0, .int .u16 x.g1, .int .u16 x.g2, .int .u16 x.g3, .int .u16 x.g4, .int .u16 x.g5, .int .u16 x.g6, .int .u16 x.g7, .int .i64 x.p])] 20)).cell? ⟨g, o2 + m, none⟩ = some (.slice hv.a hv.n hv.c) := ((below1 w3 (.cells #[.iface 27 (.agg #[.int .i8 x.f, .int .u16 x.g0, .int .u16 x.g1, .int .u16 x.g2, .int .u16 x.g3, .int .u16 x.g4, .int .u16 x.g5, .int .u16 x.g6, .int .u16 x.g7, .int .i64 x.p])] 20)).cell (p := ⟨g, o2 + m, none⟩) hlt2).trans hcell
        have HRw := Lib.hid (show PK.RowC (w3.alloc (.cells #[.iface 27 (.agg #[.int .i8 x.f, .int .u16 x.g0, .int .u16 x.g1, .int .u16 x.g2, .int .u16 x.g3, .int .u16 x.g4, .int .u16 x.g5, .int .u16 x.g6, .int .u16 x.g7, .int .i64 x.p])] 20)).drew (some ⟨w3.heap.size, 0, none⟩) 1 [x] from rowC_at (K := PK) w3 20 [x] _ w3.heap.size 1 rfl rfl rfl (by simp))
        obtain ⟨wd, hwd⟩ : ∃ X, X = (w3.alloc (.cells #[.iface 27 (.agg #[.int .i8 x.f, .int .u16 x.g0, .int .u16 x.g1, .int .u16 x.g2, .int .u16 x.g3, .int .u16 x.g4, .int .u16 x.g5, .int .u16 x.g6, .int .u16 x.g7, .int .i64 x.p])] 20)).drew := ⟨_, rfl⟩
        have HLo := Lib.hid (hlo.below hbd)
        have HBd := Lib.hid hbd
        rw [← hwd] at HLo HBd HRw
        have HW := Lib.hid hwd
        have HN := Lib.hid hn
        have hbs : w.heap.size + 1 ≤ wd.heap.size := by have := HBd.out.size; omega
        have hMl : L.length ≤ 400 := HQl.out
        clear hwd hbd hn hlo
        go_region_law (first | (rw [← HW.out]; refine PK.step_append_loose rfl _ _ rfl (w.heap.size + 1) hv.a hv.n hv.c rfl L HN.out HLo.out (some ⟨w3.heap.size, 0, none⟩) 1 1 rfl [x] rfl (by simp) HRw.out (by simp; omega) hbs M HML.out ?_; intro a9 c9 wz hO9 hG9 hP9; obtain ⟨hz1, hz2, hF9⟩ := HFm.out.put1 HBd.out HJ.out HQ.out hO9 hG9 hP9))
        all_goals
          obtain ⟨row9, hgr9, hrow9⟩ := hG9
          have hbl : Below (w.heap.size + 1) w3 wz := (HBd.out.mono (by omega)).trans ((Below.refl _ wd).grown hgr9 hbs (fun k e => (hrow9 k e).1))
          have hb9 := hbl.setCell (p := ⟨g, o2 + m, none⟩) (by dsimp only; omega) (.slice a9 M.length c9)
          obtain ⟨qz, hqz⟩ : ∃ X, X = wz.setCell ⟨g, o2 + m, none⟩ (.slice a9 M.length c9) := ⟨_, rfl⟩
          rw [← hqz] at hF9 hb9 ⊢
          have HF9 := Lib.hid hF9
          have HB9 := Lib.hid hb9
          clear hqz hF9 hb9 hbl hgr9 hrow9 hP9 hO9 hz1 hz2 k0 k1 k2 k3 k4 k5 k6 k7 k8 k9 hld hcell hcell2
          have HMp := Lib.hid (map_below2 HO3.out HB9.out (Nat.lt_succ_self _))
          go_wp2_with fail
          go_roundw
          case rel => exact ⟨k + 1, n + 1, m + 1, _, _, _, _, rfl, by go_num, by omega, by omega, Lib.hid (by have := HN0.out; omega), HM2, HMp, Lib.hid (by rw [HKs.out]; exact HPut.out), Lib.hid (by rw [HS2.out]; exact HF9.out), Lib.hid (HB.out.trans ((HB1.out.mono hsz).trans ((HB2.out).trans ((HB3.out.mono (by omega)).trans (HB9.out.mono (by omega))))))⟩
          case measure => simp [intOf]; omega
    · obtain rfl : k = l.length := by omega
      have hm := HM.out
      have hF := HF.out
      rw [List.take_length] at hm hF
      go_wp2_with fail
      go_ret
      exact ⟨a1, c1, hs, by rw [fams_len, ← hm]; rfl, hF, HB.out⟩
end Go.Proofs.Ytcihcdifjnobjaa
