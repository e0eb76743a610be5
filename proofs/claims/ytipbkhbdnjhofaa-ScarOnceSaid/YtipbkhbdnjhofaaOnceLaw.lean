/- ScarOnce walked. -/
import Derived.Test.YtipbkhbdnjhofaaSpecs
set_option linter.unusedSimpArgs false
set_option linter.unusedVariables false
namespace Go.Proofs.Ytipbkhbdnjhofaa
open R3 Go.RowKit Go.Proofs.Ytipbkhbdnjhofaa.Kind

/-- The last place of an address among the first k. -/
def LastTo (ds : List Ad) (a : Ad) (k : Nat) (v : Int) : Prop := (v = -1 ∧ ∀ i, i < k → ds[i]? ≠ some a) ∨ ∃ j : Nat, v = j ∧ j < k ∧ ds[j]? = some a ∧ ∀ i, j < i → i < k → ds[i]? ≠ some a
theorem lastTo_zero (ds : List Ad) (a : Ad) : LastTo ds a 0 (-1) := .inl ⟨rfl, fun i h => by omega⟩
theorem lastTo_yes {ds : List Ad} {a : Ad} {k : Nat} (h : ds[k]? = some a) : LastTo ds a (k + 1) k := .inr ⟨k, rfl, by omega, h, fun i h1 h2 => by omega⟩
theorem lastTo_no {ds : List Ad} {a b : Ad} {k : Nat} {v : Int} (h : LastTo ds a k v) (hb : ds[k]? = some b) (hn : b ≠ a) : LastTo ds a (k + 1) v := by
  have hk : ds[k]? ≠ some a := fun e => hn (by rw [hb] at e; exact Option.some.inj e)
  rcases h with ⟨h1, h2⟩ | ⟨j, h1, h2, h3, h4⟩
  · refine .inl ⟨h1, fun i hi => ?_⟩
    by_cases e : i = k
    · subst e; exact hk
    · exact h2 i (by omega)
  · refine .inr ⟨j, h1, by omega, h3, fun i hi hi2 => ?_⟩
    by_cases e : i = k
    · subst e; exact hk
    · exact h4 i hi (by omega)
theorem lastTo_end {ds : List Ad} {l : List Sc} {k : Nat} {v : Int} {y : Sc} (h : Once ds k l) (hy : y ∈ l) (hv : LastTo ds y.ad k v) : v = y.at_ := by
  obtain ⟨j, hj, e, e2, e3⟩ := h.src y hy
  rcases hv with ⟨_, h2⟩ | ⟨i, h1, h2, h3, h4⟩
  · exact absurd e2 (h2 j hj)
  · rw [h1, e]
    rcases Nat.lt_trichotomy i j with hl | hl | hl
    · exact absurd e2 (h4 j hl hj)
    · rw [hl]
    · exact absurd h3 (e3 i hl h2)
theorem once_rise {ds : List Ad} {l : List Sc} {k i : Nat} {x y : Sc} (h : Once ds k l) (hx : l[i]? = some x) (hy : l[i + 1]? = some y) : x.at_ < y.at_ := by
  obtain ⟨h1, e1⟩ := List.getElem?_eq_some_iff.1 hx
  obtain ⟨h2, e2⟩ := List.getElem?_eq_some_iff.1 hy
  have := List.pairwise_iff_getElem.1 h.rise i (i + 1) h1 h2 (by omega)
  rwa [e1, e2] at this
theorem once_ok {ds : List Ad} {k : Nat} {l : List Sc} (h : Once ds k l) (hd : OkL ds) : OkS l := fun x hx => by
  obtain ⟨j, _, _, e, _⟩ := h.src x hx
  exact hd _ (List.mem_of_getElem? e)
set_option maxHeartbeats 40000000 in
set_option maxRecDepth 1000000 in
theorem once_walk (HN : NoteSpec) (HH : HasSpec) (HWk : WakesSpec) (ds : List Ad) (s : Option Addr) (c : Nat) (w : World) (hD : AK.RowC w s c ds) (hod : OkL ds) :
    Calls Try.prog 3 #[.slice s ds.length c] w fun e w' => e = .returned (.bool true) ∧ Below w.heap.size w w' := by
  have HN := Lib.hid (fun l n ds s v c d L w h h1 h2 h3 h4 => HN l n ds s v c d L w h h1 h2 h3 h4)
  have HH := Lib.hid (fun l g n ds s v c d r w h h1 h2 h3 h4 => HH l g n ds s v c d r w h h1 h2 h3 h4)
  have HWk := Lib.hid (fun w => HWk w)
  have HD := Lib.hid hD
  have HOd := Lib.hid hod
  have hmx : ds.length ≤ 9223372036854775807 := by have h1 := hD.1; have h2 := hD.2.1; unfold maxLen at h2; omega
  have HG := Lib.hid (rgreatA_any ds s c _ w rfl hmx)
  clear hD hod
  go_enter Try.func3, Try.ntmps3
  by_cases hgr : 60 < ds.length
  · rw [decide_eq_true hgr] at HG
    go_wp2_with fail
    (with_reducible refine HG.out.mono ?_)
    rintro e w1 ⟨rfl, hw1⟩
    subst w1
    go_wp2_with fail
    (with_reducible refine (HWk.out _).mono ?_)
    rintro e w1 ⟨rfl, hb⟩
    go_wp2_with fail
    go_ret
    exact ⟨rfl, hb⟩
  · rw [decide_eq_false hgr] at HG
    have h60 : ds.length ≤ 60 := by omega
    clear hgr
    go_wp2_with fail
    (with_reducible refine HG.out.mono ?_)
    rintro e w1 ⟨rfl, hw1⟩
    subst w1
    clear HG
    go_wp2_with fail
    go_loopw [3, 4] (fun o i wr => ∃ (k m c1 : Nat) (a1 : Option Addr) (l : List Sc), o = .slice a1 m c1 ∧ i = .int .i64 k ∧ k ≤ ds.length ∧ m ≤ 32 ∧ Hid (m = l.length) ∧ Hid (Once ds k l) ∧ Hid (SK.RowC wr a1 c1 l) ∧ Hid (Below w.heap.size w wr)) (fun _ i _ => ds.length - (intOf i).toNat)
    case atStart => exact ⟨0, 0, 0, none, [], rfl, rfl, by omega, by omega, Lib.hid rfl, Lib.hid (once_zero ds), Lib.hid (own_nil w 0).row, Lib.hid (Below.refl _ _)⟩
    case round =>
      obtain ⟨k, m, c1, a1, l, rfl, rfl, hk, hm, hml, hO, hR, hB⟩ := hrel
      have HML := Lib.hid hml.out
      have HO := Lib.hid hO.out
      have HR := Lib.hid hR.out
      have HB := Lib.hid hB.out
      clear hml hO hR hB
      by_cases hlt : k < ds.length
      · obtain ⟨b, o, rfl, hb, hat⟩ := HD.out.2.2.2 (by omega)
        obtain ⟨x, hx⟩ : ∃ x, ds[k]? = some x := ⟨_, List.getElem?_eq_getElem hlt⟩
        have HC := Lib.hid (fun (W : World) (h : Below w.heap.size w W) => AK.ten (hat.below h hb) hx)
        obtain ⟨⟨x0, x1, x2, x3, x4⟩, x5, x6, x7, x8, x9⟩ := HC.out wr HB.out
        have hl32 := HO.out.many
        obtain ⟨L, hL⟩ : ∃ L, L = noteS l k [x] := ⟨_, rfl⟩
        have HS := Lib.hid (show Once ds (k + 1) L by rw [hL]; exact once_step HO.out hx)
        have hL2 : L.length ≤ 32 := HS.out.many
        obtain ⟨y, hyl, hy⟩ : ∃ y : Sc, y = ⟨x, (k : Int)⟩ ∧ L[L.length - 1]? = some y := ⟨_, rfl, by rw [← List.getLast?_eq_getElem?, hL]; exact once_last (ds := ds) (l := l)⟩
        obtain ⟨G, hG⟩ : ∃ G : Nat, L.length = G + 1 := ⟨L.length - 1, by have := (List.getElem?_eq_some_iff.1 hy).1; omega⟩
        rw [hG] at hy
        simp only [Nat.add_sub_cancel] at hy
        have HY := Lib.hid hy
        have hxo : okA x := HOd.out x (List.mem_of_getElem? hx)
        have hls : OkS l := once_ok HO.out HOd.out
        have HF := Lib.hid (HN.out l k [x] a1 (some ⟨wr.heap.size, 0, none⟩) c1 1 L (wr.alloc (.cells #[.int .i8 x.f, .int .u16 x.g0, .int .u16 x.g1, .int .u16 x.g2, .int .u16 x.g3, .int .u16 x.g4, .int .u16 x.g5, .int .u16 x.g6, .int .u16 x.g7, .int .i64 x.p] 31)) ⟨by rw [P.clamp_id _ (by omega) (by omega)]; exact hL, hls, okL_one hxo⟩ (by omega) (by simp) (HR.out.below (below1 wr _)) (rowC_at (K := AK) wr 31 [x] _ _ 1 rfl rfl rfl (by simp)))
        rw [← HML.out, show ([x] : List Ad).length = 1 from rfl] at HF
        clear hat hx hL hy hxo hls
        go_wp2_with fail
        (with_reducible refine HF.out.mono ?_)
        rintro e w1 ⟨a2, c2, rfl, hr2, hb2⟩
        have HR2 := Lib.hid hr2
        have HB2 := Lib.hid (HB.out.trans (((below1 wr (.cells #[.int .i8 x.f, .int .u16 x.g0, .int .u16 x.g1, .int .u16 x.g2, .int .u16 x.g3, .int .u16 x.g4, .int .u16 x.g5, .int .u16 x.g6, .int .u16 x.g7, .int .i64 x.p] 31)).trans (hb2.mono (by simp))).mono HB.out.size))
        clear hb2 hr2 x0 x1 x2 x3 x4 x5 x6 x7 x8 x9 HF
        obtain ⟨⟨x0, x1, x2, x3, x4⟩, x5, x6, x7, x8, x9⟩ := HC.out w1 HB2.out
        obtain ⟨b3, o3, rfl, hb3, hat3⟩ := HR2.out.2.2.2 (by omega)
        have hcs := SK.cells hat3 HY.out
        rw [hyl] at hcs
        obtain ⟨d0, d1, d2, d3, d4, d5, d6, d7, d8, d9, d10⟩ := hcs
        dsimp only at d0 d1 d2 d3 d4 d5 d6 d7 d8 d9 d10
        have hE := neq_sc (⟨x, (k : Int)⟩ : Sc) ⟨x, (k : Int)⟩
        rw [show decide ((⟨x, (k : Int)⟩ : Sc) ≠ ⟨x, (k : Int)⟩) = false by simp] at hE
        dsimp only at hE
        have hGd := guard_sc
        have hw : IntKind.i64.wrap ((L.length : Int) - 1) = (G : Int) := by rw [IntKind.wrap_i64]; omega
        have hgl : (G : Int) < (L.length : Int) := by omega
        have hg0 : (0 : Int) ≤ (G : Int) := by omega
        have hn0 : ¬ (L.length : Int) = 0 := by omega
        have hn32 : ¬ (32 : Int) < (L.length : Int) := by omega
        have hn4 : (((L.length : Int) == 0) || decide ((32 : Int) < (L.length : Int))) = false := by rw [Bool.or_eq_false_iff]; exact ⟨by rw [beq_eq_false_iff_ne]; omega, decide_eq_false (by omega)⟩
        have hn5 : ((L.length : Int) == 0) = false := by rw [beq_eq_false_iff_ne]; omega
        have hn6 : decide ((32 : Int) < (L.length : Int)) = false := decide_eq_false (by omega)
        clear hn0 hn32
        have HLG := Lib.hid hG
        clear hat3 hG hyl
        go_upto_region 8 with fail
        go_quiet (fail)
        go_wp2_with fail
        exact ⟨⟨k + 1, L.length, c2, _, L, rfl, by go_num, by omega, hL2, Lib.hid rfl, HS, Lib.hid (HR2.out.below (below_drewN (Below.refl _ _) _)), Lib.hid (below_drewN HB2.out _)⟩, by simp [intOf]; omega⟩
      · obtain rfl : k = ds.length := by omega
        obtain ⟨wA, rfl⟩ : ∃ wA, wA = wr := ⟨_, rfl⟩
        have hmx2 : m ≤ 9223372036854775807 := by omega
        go_wp2_with fail
        go_loopw [5] (fun i w2 => ∃ (k : Nat), i = .int .i64 k ∧ k ≤ m ∧ Hid (Below wA.heap.size wA w2)) (fun i _ => m - (intOf i).toNat)
        case atStart => exact ⟨0, rfl, by omega, Lib.hid (Below.refl _ _)⟩
        case round =>
          obtain ⟨k, rfl, hk2, hB2⟩ := hrel
          have HB2 := Lib.hid hB2.out
          clear hB2
          by_cases hlt2 : k < m
          · obtain ⟨y, hy⟩ : ∃ y, l[k]? = some y := ⟨_, List.getElem?_eq_getElem (by have := HML.out; omega)⟩
            have hlm := HML.out
            obtain ⟨b3, o3, hs1, hb3, hat3⟩ := HR.out.2.2.2 (by omega)
            rw [hs1]
            have HS1 := Lib.hid hs1
            clear hs1
            have HC := Lib.hid (fun (W : World) (h : Below wA.heap.size wA W) => SK.cells (hat3.below h hb3) hy)
            have HY := Lib.hid hy
            obtain ⟨d0, d1, d2, d3, d4, d5, d6, d7, d8, d9, d10⟩ := HC.out wr HB2.out
            have HAT := Lib.hid hat3
            clear hat3 hy hlm
            have HIN := Lib.hid (fun (k : Nat) (h : k < ds.length) => List.getElem?_eq_getElem h)
            by_cases h0 : k = 0
            · have hz : decide ((0 : Int) < (k : Int)) = false := decide_eq_false (by omega)
              have hz2 : ¬ 0 < k := by omega
              clear h0
              go_upto_region 13 with fail
              go_quiet (fail)
              clear d0 d1 d2 d3 d4 d5 d6 d7 d8 d9 d10
              go_wp2_with fail
              go_loopw [6, 7] (fun v i w3 => ∃ (q : Nat) (u : Int), v = .int .i64 u ∧ i = .int .i64 q ∧ q ≤ ds.length ∧ Hid (LastTo ds y.ad q u) ∧ Hid (Below wA.heap.size wA w3)) (fun _ i _ => ds.length - (intOf i).toNat)
              case atStart => exact ⟨0, -1, rfl, rfl, by omega, Lib.hid (lastTo_zero _ _), Lib.hid (below_drewN HB2.out _)⟩
              case round =>
                obtain ⟨q, u, rfl, rfl, hq, hLT, hB3⟩ := hrel
                have HLT := Lib.hid hLT.out
                have HB3 := Lib.hid hB3.out
                clear hLT hB3
                obtain ⟨d0, d1, d2, d3, d4, d5, d6, d7, d8, d9, d10⟩ := HC.out wr HB3.out
                by_cases hlt3 : q < ds.length
                · obtain ⟨b, o, rfl, hb, hat⟩ := HD.out.2.2.2 (by omega)
                  obtain ⟨x, hx⟩ : ∃ x, ds[q]? = some x := ⟨_, HIN.out q hlt3⟩
                  obtain ⟨⟨x0, x1, x2, x3, x4⟩, x5, x6, x7, x8, x9⟩ := AK.ten (hat.below (HB.out.trans (HB3.out.mono HB.out.size)) hb) hx
                  have hE := eql_ad x y.ad
                  have hGd := guard_ad
                  by_cases hxy : x = y.ad
                  · have HS := Lib.hid (lastTo_yes (hxy ▸ hx))
                    rw [decide_eq_true hxy] at hE
                    clear hxy hx hat
                    go_upto_region 19 with fail
                    go_quiet (fail)
                    go_wp2_with fail
                    exact ⟨⟨q + 1, q, rfl, by go_num, by omega, HS, Lib.hid (below_drewN HB3.out _)⟩, by simp [intOf]; omega⟩
                  · have HS := Lib.hid (lastTo_no HLT.out hx hxy)
                    rw [decide_eq_false hxy] at hE
                    clear hxy hx hat
                    go_upto_region 19 with fail
                    go_quiet (fail)
                    go_wp2_with fail
                    exact ⟨⟨q + 1, u, rfl, by go_num, by omega, HS, Lib.hid (below_drewN HB3.out _)⟩, by simp [intOf]; omega⟩
                · obtain rfl : q = ds.length := by omega
                  have hu := lastTo_end HO.out (List.mem_of_getElem? HY.out) HLT.out
                  go_wp2_with fail
                  exact ⟨⟨k + 1, by go_num, by omega, HB3⟩, by simp [intOf]; omega⟩
            · obtain ⟨K, hK⟩ : ∃ K : Nat, k = K + 1 := ⟨k - 1, by omega⟩
              obtain ⟨z, hz⟩ : ∃ z, l[K]? = some z := ⟨_, List.getElem?_eq_getElem (by have := HML.out; omega)⟩
              obtain ⟨z0, z1, z2, z3, z4, z5, z6, z7, z8, z9, z10⟩ := SK.cells (HAT.out.below HB2.out hb3) hz
              have hri : z.at_ < y.at_ := once_rise HO.out hz (by rw [← hK]; exact HY.out)
              have hr2 : decide (y.at_ ≤ z.at_) = false := decide_eq_false (by omega)
              have hr3 : ¬ y.at_ ≤ z.at_ := by omega
              have hw : IntKind.i64.wrap ((k : Int) - 1) = (K : Int) := by rw [IntKind.wrap_i64]; omega
              have hgl : (K : Int) < (m : Int) := by omega
              have hg0 : (0 : Int) ≤ (K : Int) := by omega
              have hp : 0 < k := by omega
              have hp2 : decide ((0 : Int) < (k : Int)) = true := decide_eq_true (by omega)
              clear hK hz hri h0
              go_upto_region 13 with fail
              go_quiet (fail)
              clear d0 d1 d2 d3 d4 d5 d6 d7 d8 d9 d10 z0 z1 z2 z3 z4 z5 z6 z7 z8 z9 z10
              go_wp2_with fail
              go_loopw [6, 7] (fun v i w3 => ∃ (q : Nat) (u : Int), v = .int .i64 u ∧ i = .int .i64 q ∧ q ≤ ds.length ∧ Hid (LastTo ds y.ad q u) ∧ Hid (Below wA.heap.size wA w3)) (fun _ i _ => ds.length - (intOf i).toNat)
              case atStart => exact ⟨0, -1, rfl, rfl, by omega, Lib.hid (lastTo_zero _ _), Lib.hid (below_drewN HB2.out _)⟩
              case round =>
                obtain ⟨q, u, rfl, rfl, hq, hLT, hB3⟩ := hrel
                have HLT := Lib.hid hLT.out
                have HB3 := Lib.hid hB3.out
                clear hLT hB3
                obtain ⟨d0, d1, d2, d3, d4, d5, d6, d7, d8, d9, d10⟩ := HC.out wr HB3.out
                by_cases hlt3 : q < ds.length
                · obtain ⟨b, o, rfl, hb, hat⟩ := HD.out.2.2.2 (by omega)
                  obtain ⟨x, hx⟩ : ∃ x, ds[q]? = some x := ⟨_, HIN.out q hlt3⟩
                  obtain ⟨⟨x0, x1, x2, x3, x4⟩, x5, x6, x7, x8, x9⟩ := AK.ten (hat.below (HB.out.trans (HB3.out.mono HB.out.size)) hb) hx
                  have hE := eql_ad x y.ad
                  have hGd := guard_ad
                  by_cases hxy : x = y.ad
                  · have HS := Lib.hid (lastTo_yes (hxy ▸ hx))
                    rw [decide_eq_true hxy] at hE
                    clear hxy hx hat
                    go_upto_region 19 with fail
                    go_quiet (fail)
                    go_wp2_with fail
                    exact ⟨⟨q + 1, q, rfl, by go_num, by omega, HS, Lib.hid (below_drewN HB3.out _)⟩, by simp [intOf]; omega⟩
                  · have HS := Lib.hid (lastTo_no HLT.out hx hxy)
                    rw [decide_eq_false hxy] at hE
                    clear hxy hx hat
                    go_upto_region 19 with fail
                    go_quiet (fail)
                    go_wp2_with fail
                    exact ⟨⟨q + 1, u, rfl, by go_num, by omega, HS, Lib.hid (below_drewN HB3.out _)⟩, by simp [intOf]; omega⟩
                · obtain rfl : q = ds.length := by omega
                  have hu := lastTo_end HO.out (List.mem_of_getElem? HY.out) HLT.out
                  go_wp2_with fail
                  exact ⟨⟨k + 1, by go_num, by omega, HB3⟩, by simp [intOf]; omega⟩
          · obtain rfl : k = m := by omega
            clear hmx2
            have HBA := Lib.hid (HB.out.trans (HB2.out.mono HB.out.size))
            have HRA := Lib.hid (HR.out.below HB2.out)
            by_cases h32 : k < 32
            · have HLL := Lib.hid (fun (q : Nat) (x : Ad) (hq : q < ds.length) (hx : ds[q]? = some x) => once_has HO.out h60 (by have := HML.out; omega) hq hx)
              have HIN := Lib.hid (fun (k : Nat) (h : k < ds.length) => List.getElem?_eq_getElem h)
              have hlm : l.length ≤ 500 := by have := HML.out; omega
              have hk32 : decide ((k : Int) < 32) = true := decide_eq_true (by omega)
              go_wp2_with fail
              go_loopw [8] (fun i w3 => ∃ (q : Nat), i = .int .i64 q ∧ q ≤ ds.length ∧ Hid (Below wA.heap.size wA w3)) (fun i _ => ds.length - (intOf i).toNat)
              case atStart => exact ⟨0, rfl, by omega, HB2⟩
              case round =>
                obtain ⟨q, rfl, hq, hB3⟩ := hrel
                have HB3 := Lib.hid hB3.out
                clear hB3
                by_cases hlt3 : q < ds.length
                · obtain ⟨b, o, hs, hb, hat⟩ := HD.out.2.2.2 (by omega)
                  rw [hs]
                  have HSs := Lib.hid hs
                  clear hs
                  obtain ⟨x, hx⟩ : ∃ x, ds[q]? = some x := ⟨_, HIN.out q hlt3⟩
                  obtain ⟨⟨x0, x1, x2, x3, x4⟩, x5, x6, x7, x8, x9⟩ := AK.ten (hat.below (HB.out.trans (HB3.out.mono HB.out.size)) hb) hx
                  have HF := Lib.hid (HH.out l 100 ds.length [x] a1 (some ⟨wr.heap.size, 0, none⟩) c1 1 true (wr.alloc (.cells #[.int .i8 x.f, .int .u16 x.g0, .int .u16 x.g1, .int .u16 x.g2, .int .u16 x.g3, .int .u16 x.g4, .int .u16 x.g5, .int .u16 x.g6, .int .u16 x.g7, .int .i64 x.p] 31)) ⟨(HLL.out q x hlt3 hx).symm, once_ok HO.out HOd.out, okL_one (HOd.out x (List.mem_of_getElem? hx))⟩ hlm (by simp) ((HR.out.below HB3.out).below (below1 wr _)) (rowC_at (K := AK) wr 31 [x] _ _ 1 rfl rfl rfl (by simp)))
                  rw [← HML.out, show ([x] : List Ad).length = 1 from rfl] at HF
                  clear hat hx
                  go_wp2_with fail
                  (with_reducible refine HF.out.mono ?_)
                  rintro e w1 ⟨rfl, hb2⟩
                  have HB4 := Lib.hid (HB3.out.trans (((below1 wr (.cells #[.int .i8 x.f, .int .u16 x.g0, .int .u16 x.g1, .int .u16 x.g2, .int .u16 x.g3, .int .u16 x.g4, .int .u16 x.g5, .int .u16 x.g6, .int .u16 x.g7, .int .i64 x.p] 31)).trans (hb2.mono (by simp))).mono HB3.out.size))
                  clear hb2
                  go_wp2_with fail
                  exact ⟨⟨q + 1, by go_num, by omega, HB4⟩, by simp [intOf]; omega⟩
                · obtain rfl : q = ds.length := by omega
                  have HB4 := Lib.hid (HB.out.trans (HB3.out.mono HB.out.size))
                  go_wp2_with fail
                  (with_reducible refine (HWk.out _).mono ?_)
                  rintro e w1 ⟨rfl, hb⟩
                  go_wp2_with fail
                  go_ret
                  exact ⟨rfl, HB4.out.trans (hb.mono HB4.out.size)⟩
            · go_wp2_with fail
              (with_reducible refine (HWk.out _).mono ?_)
              rintro e w1 ⟨rfl, hb⟩
              go_wp2_with fail
              go_ret
              exact ⟨rfl, HBA.out.trans (hb.mono HBA.out.size)⟩
end Go.Proofs.Ytipbkhbdnjhofaa
