/- The document's own answers about order: families in turn. -/
import Derived.Test.YtcihcdifjnobjaaRefB
set_option linter.unusedSimpArgs false
set_option linter.unusedVariables false
namespace Go.Proofs.Ytcihcdifjnobjaa
open Go.RowKit Go.Proofs.Ytcihcdifjnobjaa.Kind

def boolsA (g : List Bool) : Array Value := (g.map Value.bool).toArray
theorem boolsA_set {g : List Bool} {i : Nat} (b : Bool) : (boolsA g).setIfInBounds i (.bool b) = boolsA (g.set i b) := by
  unfold boolsA
  rw [List.setIfInBounds_toArray, List.map_set]
theorem boolsA_cell {w : World} {gb i : Nat} {g : List Bool} {b : Bool} {t : TypeId} (h : w.heap[gb]? = some (.cells (boolsA g) t (0, 0))) (hg : g[i]? = some b) : w.cell? ⟨gb, i, none⟩ = some (.bool b) ∧ w.frozen? ⟨gb, i, none⟩ = false := by
  simp [World.cell?, World.frozen?, h, boolsA, hg]
theorem run_made_b (w : World) (n : Nat) (hn : n ≤ 1000) : (Instr.makeSlice 52 (.int .i64 n) (.int .i64 n)).run Try.prog w = .ok (.slice (some ⟨w.heap.size, 0, none⟩) n n) (w.alloc (.cells (boolsA (List.replicate n false)) 4)) := by
  obtain ⟨i0, hi, hz0, hz1, hz2⟩ := info_parts BK.hi
  have h := run_makeSlice (P := Try.prog) (w := w) 52 4 i0 BK.z BK.hu hi hz0 .i64 .i64 n n (by omega) (by omega) (by rw [hz1]; show (n : Int).toNat * 1 ≤ _; omega) (by rw [hz2]; show ((1 : Nat) : Int) * (n : Int) ≤ _; omega) (by omega)
  rw [hz1, Int.toNat_natCast] at h
  have e : madeCells BK.z.cells (n * BK.k) = boolsA (List.replicate n false) := by
    unfold boolsA
    show madeCells #[Value.bool false] (n * 1) = _
    rw [Nat.mul_one]
    unfold madeCells
    apply Array.ext
    · simp
    · intro i h1 h2
      simp [Nat.mod_one]
  rw [e] at h
  exact h
theorem noPick_step {l : List Ad} {g : List Bool} {f : Int} {i : Nat} (h : Turn.NoPick famA l g f i) {x : Ad} {b : Bool} (hx : l[i]? = some x) (hb : g[i]? = some b) (hn : b = false → x.f ≠ f) : Turn.NoPick famA l g f (i + 1) := fun j y hj hy hg => by
  rcases (show j < i ∨ j = i by omega) with h1 | rfl
  · exact h j y h1 hy hg
  · rw [hx] at hy; cases hy
    rw [hb] at hg
    exact hn (Option.some.inj hg)
set_option maxHeartbeats 8000000 in
set_option maxRecDepth 1000000 in
theorem rturns_any (l : List Ad) (s : Option Addr) (c : Nat) (L : List Ad) (w : World) (hL : L = Turn.turns famA l) (hl : l.length ≤ 1000) (hR : AK.RowC w s c l) :
    Calls Try.prog 15 #[.slice s l.length c] w fun e w' => ∃ a1 c1, e = .returned (.slice a1 L.length c1) ∧ AK.Own w' w.heap.size (.slice a1 L.length c1) L ∧ Below w.heap.size w w' := by
  have HR := Lib.hid hR
  have HL := Lib.hid hL
  have HF := Lib.hid (rkinds_any l s c w hl hR)
  have hmk := fun w => run_made_b w l.length hl
  have hKl := Turn.kinds_len (fam := famA) l
  obtain ⟨K, hK⟩ : ∃ K, K = Turn.kinds famA l := ⟨_, rfl⟩
  obtain ⟨Kn, hKn⟩ : ∃ Kn, Kn = K.length := ⟨_, rfl⟩
  obtain ⟨R, hRR⟩ : ∃ R, R = l.length * Kn := ⟨_, rfl⟩
  have hKn2 : Kn ≤ 1000 := by rw [hKn, hK]; omega
  have hRb : R ≤ 1000000 := by rw [hRR]; exact Nat.mul_le_mul hl hKn2
  have hRe : R = l.length * (Turn.kinds famA l).length := by rw [hRR, hKn, hK]
  rw [← hK, ← hKn] at HF
  have HK := Lib.hid hK
  have HKn := Lib.hid hKn
  have HRe := Lib.hid hRe
  clear hR hL hK hKn hRR hRe hKl
  go_enter Try.func15, Try.ntmps15
  go_wp2_with fail
  with_reducible refine HF.out.mono ?_
  rintro e w1 ⟨a1, c1, rfl, hJ, hb1⟩
  have HJ := Lib.hid hJ
  have HB1 := Lib.hid hb1
  clear hJ hb1 HF
  obtain ⟨gb, hgb⟩ : ∃ gb, gb = w1.heap.size := ⟨_, rfl⟩
  go_wp2_with fail
  rw [← hgb]
  have HGB := Lib.hid hgb
  clear hgb hmk
  go_loopw [3, 6] (fun o nn wr => ∃ (n m c2 : Nat) (a2 : Option Addr) (g : List Bool), o = .slice a2 m c2 ∧ nn = .int .i64 n ∧ n ≤ R ∧ m ≤ 1000 ∧ Hid (m = (Turn.stA famA l n).1.length) ∧ Hid (g.length = l.length) ∧ Hid (∀ f, Turn.remq famA l g f = (Turn.stA famA l n).2 f) ∧ Hid (AK.Own wr (gb + 1) (.slice a2 m c2) (Turn.stA famA l n).1) ∧ Hid (wr.heap[gb]? = some (.cells (boolsA g) 4 (0, 0))) ∧ Hid (Below w1.heap.size w1 wr)) (fun _ nn _ => R - (intOf nn).toNat)
  case atStart => exact ⟨0, 0, 0, none, List.replicate l.length false, rfl, rfl, by omega, by omega, Lib.hid rfl, Lib.hid (by simp), Lib.hid (fun f => Turn.remq_start famA l f), Lib.hid (own_nil _ _), Lib.hid (by rw [HGB.out]; exact laid1 w1 _), Lib.hid (below1 w1 _)⟩
  case round =>
    obtain ⟨n, m, c2, a2, g, rfl, rfl, hn, hm1, hm, hg, hq, hO, hG, hB⟩ := hrel
    obtain ⟨wo, rfl⟩ : ∃ W : World, W = wr := ⟨_, rfl⟩
    have HM := Lib.hid hm.out
    have HG := Lib.hid hg.out
    have HQ := Lib.hid hq.out
    have HO := Lib.hid hO.out
    have HGc := Lib.hid hG.out
    have HB := Lib.hid hB.out
    have hlen : (Turn.stA famA l n).1.length ≤ l.length := Turn.stA_len l (by rw [← HRe.out]; exact hn)
    have hml : m ≤ l.length := by rw [HM.out]; exact hlen
    have hgbs : gb < wo.heap.size := lt_of_block HGc.out
    clear hm hg hq hO hG hB hlen
    by_cases hlt : m < l.length
    · have hnR : n < R := by rw [HRe.out]; exact Turn.stA_more l (by rw [← HRe.out]; exact hn) (by rw [← HM.out]; exact hlt)
      have hK0 : 0 < Kn := by rw [HKn.out, HK.out]; exact Turn.kinds_pos (by intro e; rw [e] at hlt; simp at hlt)
      obtain ⟨j, hj⟩ : ∃ j, j = n % Kn := ⟨_, rfl⟩
      have hjK : j < Kn := by rw [hj]; exact Nat.mod_lt _ hK0
      obtain ⟨f, hf⟩ : ∃ f, K[j]? = some f := ⟨_, List.getElem?_eq_getElem (by rw [← HKn.out]; exact hjK)⟩
      have hf2 : (Turn.kinds famA l)[n % (Turn.kinds famA l).length]? = some f := by rw [← HK.out, ← HKn.out, ← hj]; exact hf
      have HF2 := Lib.hid hf2
      have hr1 : (n : Int).tmod (Kn : Int) = (j : Int) := by rw [hj]; rw [Int.tmod_eq_emod_of_nonneg (by omega)]; omega
      have hr2 : (n : Int) % (Kn : Int) = (j : Int) := by rw [hj]; omega
      have hKz : ¬ (Kn : Int) = 0 := by omega
      have hKz2 : ((Kn : Int) == 0) = false := by rw [beq_eq_false_iff_ne]; omega
      have hKz3 : ¬ Kn = 0 := by omega
      have hji : (j : Int) < (Kn : Int) := by omega
      have hj0 : (0 : Int) ≤ (j : Int) := by omega
      have hrw : IntKind.i64.wrap (j : Int) = (j : Int) := by rw [IntKind.wrap_i64]; omega
      obtain ⟨bf, of_, rfl, hbf, hatf⟩ := HJ.out.2.2.2 (by rw [← HKn.out]; exact hK0)
      have HFC := Lib.hid (fun (W : World) (h : Below w1.heap.size w1 W) => JK.one (hatf.below h hbf) hf)
      obtain ⟨b, o, rfl, hb, hat⟩ := HR.out.2.2.2 (by omega)
      have HC := Lib.hid (fun (W : World) (h : Below w1.heap.size w1 W) (i : Nat) (x : Ad) (hx : l[i]? = some x) => AK.ten (hat.below (HB1.out.trans (h.mono HB1.out.size)) hb) hx)
      have HJe := Lib.hid hj
      clear hatf hat hf hf2 hj
      go_wp2_with fail
      go_loopw [3, 7] (fun o ii wr => ∃ i : Nat, o = .slice a2 m c2 ∧ ii = .int .i64 i ∧ i ≤ l.length ∧ Hid (Turn.NoPick famA l g f i) ∧ ∃ q, wr = wo.drewN q) (fun _ ii _ => l.length - (intOf ii).toNat)
      case atStart => exact ⟨0, rfl, rfl, by omega, Lib.hid (fun j x hj => by omega), 0, rfl⟩
      case round =>
        obtain ⟨i, rfl, rfl, hi, hnp, q, rfl⟩ := hrel
        have HNP := Lib.hid hnp.out
        clear hnp
        by_cases hil : i < l.length
        · obtain ⟨x, hx⟩ : ∃ x, l[i]? = some x := ⟨_, List.getElem?_eq_getElem hil⟩
          obtain ⟨y, hy⟩ : ∃ y, g[i]? = some y := ⟨_, List.getElem?_eq_getElem (by rw [HG.out]; exact hil)⟩
          obtain ⟨g0, g1⟩ := boolsA_cell HGc.out hy
          obtain ⟨⟨x0, x1, x2, x3, x4⟩, x5, x6, x7, x8, x9⟩ := HC.out wo HB.out i x hx
          have f0 := HFC.out wo HB.out
          have hii : (i : Int) < (l.length : Int) := by omega
          have hi0 : (0 : Int) ≤ (i : Int) := by omega
          cases y with
          | true =>
            have HN := Lib.hid (noPick_step HNP.out hx hy (fun h => by cases h))
            clear hx hy
            go_wp2_with fail
            go_quiet (fail)
            go_wp2_with fail
            go_roundw
            case rel => exact ⟨i + 1, rfl, by go_num, by omega, HN, _, rfl⟩
            case measure => simp [intOf]; omega
          | false =>
            by_cases hxf : x.f = f
            · have hd : (x.f == f) = true := by simp [hxf]
              obtain ⟨hp1, hp2⟩ := Turn.remq_pick famA l g f i x hx hy hxf HNP.out
              obtain ⟨hs1, hs2, hs3⟩ := Turn.stA_step_some l n HF2.out ((HQ.out f).symm.trans hp1)
              have HS1 := Lib.hid hs1
              have HQ2 := Lib.hid (show ∀ f', Turn.remq famA l (g.set i true) f' = (Turn.stA famA l (n + 1)).2 f' from fun f' => by
                by_cases e : f' = f
                · rw [e, hs2]
                · rw [hp2 f' e, hs3 f' e, HQ.out f'])
              have HX := Lib.hid hx
              have HY := Lib.hid hy
              clear hp1 hp2 hs1 hs2 hs3 hx hy hxf
              go_wp2_with fail
              go_quiet (fail)
              obtain ⟨wz, hwz, hbz⟩ : ∃ wz, wz = (wo.drewN q).drewN nq ∧ Below wo.heap.size wo wz := ⟨_, rfl, below_drewN (below_drewN (Below.refl _ _) _) _⟩
              have HOz := Lib.hid (HO.out.below hbz (Nat.le_refl _))
              have HGz := Lib.hid ((hbz.block gb hgbs).trans HGc.out)
              have HBz := Lib.hid (HB.out.trans (hbz.mono HB.out.size))
              rw [← hwz]
              clear hwz hbz g0 g1 x0 x1 x2 x3 x4 x5 x6 x7 x8 x9 f0
              obtain ⟨g0, g1⟩ := boolsA_cell HGz.out HY.out
              have hw1g : w1.heap.size ≤ gb := by rw [HGB.out]; exact Nat.le_refl _
              go_upto_region 12 with fail
              obtain ⟨wy, hwy⟩ : ∃ wy, wy = wz.setCell ⟨gb, i, none⟩ (.bool true) := ⟨_, rfl⟩
              have HOy := Lib.hid (show AK.Own wy (gb + 1) (.slice a2 m c2) (Turn.stA famA l n).1 by rw [hwy]; exact HOz.out.set (p := ⟨gb, i, none⟩) (Nat.lt_succ_self gb) _)
              have HGy := Lib.hid (show wy.heap[gb]? = some (.cells (boolsA (g.set i true)) 4 (0, 0)) by rw [hwy, ← boolsA_set]; exact set_at HGz.out i (.bool true))
              have HBy := Lib.hid (show Below w1.heap.size w1 wy by rw [hwy]; exact HBz.out.setCell (p := ⟨gb, i, none⟩) hw1g _)
              rw [← hwy]
              clear hwy g0 g1 HOz HGz HBz
              obtain ⟨⟨x0, x1, x2, x3, x4⟩, x5, x6, x7, x8, x9⟩ := HC.out wy HBy.out i x HX.out
              have hgy : gb < wy.heap.size := lt_of_block HGy.out
              have hln : (Turn.stA famA l (n + 1)).1.length ≤ l.length := Turn.stA_len l (by rw [← HRe.out]; omega)
              go_wp2_with (at_builtin; refine AK.wpList_append_owned rfl _ _ rfl (gb + 1) (.slice a2 m c2) rfl (Turn.stA famA l n).1 (HOy.out.below (below1 wy _) (Nat.le_refl _)) (some ⟨wy.heap.size, 0, none⟩) 1 1 rfl [x] rfl (rowC_at (K := AK) wy 27 [x] _ _ 1 rfl rfl rfl (by simp)) (by have := HM.out; simp; omega) (by simp; omega) (Turn.stA famA l (n + 1)).1 HS1.out ?_; intro a3 c3 w3 hO3 hG3; have HO3 := Lib.hid hO3; have HB3 := Lib.hid ((HBy.out.trans ((below1 wy (.cells #[.int .i8 x.f, .int .u16 x.g0, .int .u16 x.g1, .int .u16 x.g2, .int .u16 x.g3, .int .u16 x.g4, .int .u16 x.g5, .int .u16 x.g6, .int .u16 x.g7, .int .i64 x.p] 27)).mono HBy.out.size)).grown hG3 (by simp; omega) (fun j hj => by have := (HOy.out.lt j hj).1; omega)); have HG3 := Lib.hid ((hG3.block gb (by simp; omega) (fun e => by have := (HOy.out.lt gb e.symm).1; omega)).trans (((below1 wy (.cells #[.int .i8 x.f, .int .u16 x.g0, .int .u16 x.g1, .int .u16 x.g2, .int .u16 x.g3, .int .u16 x.g4, .int .u16 x.g5, .int .u16 x.g6, .int .u16 x.g7, .int .i64 x.p] 27)).block gb hgy).trans HGy.out)); clear hO3 hG3)
              exact ⟨⟨n + 1, _, c3, a3, g.set i true, rfl, by go_num, by omega, by omega, Lib.hid rfl, Lib.hid (by rw [List.length_set]; exact HG.out), HQ2, HO3, HG3, HB3⟩, by simp [intOf]; omega⟩
            · have hd : (x.f == f) = false := by simp [hxf]
              have HN := Lib.hid (noPick_step HNP.out hx hy (fun _ => hxf))
              clear hx hy hxf
              go_wp2_with fail
              go_quiet (fail)
              go_wp2_with fail
              go_roundw
              case rel => exact ⟨i + 1, rfl, by go_num, by omega, HN, _, rfl⟩
              case measure => simp [intOf]; omega
        · obtain rfl : i = l.length := by omega
          obtain ⟨hs1, hs2⟩ := Turn.stA_step_none l n HF2.out ((HQ.out f).symm.trans (Turn.remq_none famA l g f HNP.out))
          have HS1 := Lib.hid hs1
          have HS2 := Lib.hid hs2
          clear hs1 hs2
          go_wp2_with fail
          exact ⟨⟨n + 1, m, c2, a2, g, rfl, by go_num, by omega, hm1, Lib.hid (by rw [HS1.out]; exact HM.out), HG, Lib.hid (fun f => by rw [HS2.out]; exact HQ.out f), Lib.hid (by rw [HS1.out]; exact HO.out.below (below_drewN (Below.refl _ _) q) (Nat.le_refl _)), Lib.hid (((below_drewN (Below.refl wo.heap.size wo) q).block gb hgbs).trans HGc.out), Lib.hid (below_drewN HB.out q)⟩, by simp [intOf]; omega⟩
    · have hfin : (Turn.stA famA l n).1 = L := by rw [HL.out]; exact Turn.stA_done l (by rw [← HRe.out]; exact hn) (by rw [← HM.out]; omega)
      have hm := HM.out
      have hO := HO.out
      rw [hfin] at hm hO
      go_wp2_with fail
      go_ret
      exact ⟨a2, c2, by rw [← hm]; rfl, by rw [← hm]; exact hO.mono (by have := HGB.out; have := HB1.out.size; omega), HB1.out.trans (HB.out.mono HB1.out.size)⟩
end Go.Proofs.Ytcihcdifjnobjaa
