/- The document's own answers about order: families, families in turn. -/
import Derived.Test.YtcihcdifjnobjaaRefA
import Derived.Test.YtcihcdifjnobjaaPlay
set_option linter.unusedSimpArgs false
set_option linter.unusedVariables false
namespace Go.Proofs.Ytcihcdifjnobjaa
open Go.RowKit Go.Proofs.Ytcihcdifjnobjaa.Kind

theorem JK.one {w : World} {b o : Nat} {l : List Int} (h : JK.At w b o l) {j : Nat} {x : Int} (hx : l[j]? = some x) : w.cell? ⟨b, o + j, none⟩ = some (.int .i8 x) := by
  have h1 := h j x hx 0 _ rfl
  rwa [show o + j * JK.k + 0 = o + j by show o + j * 1 + 0 = _; omega] at h1
theorem kinds_take {l : List Ad} {k : Nat} {x : Ad} (hx : l[k]? = some x) : Turn.kinds famA (l.take (k + 1)) = if x.f ∈ Turn.kinds famA (l.take k) then Turn.kinds famA (l.take k) else Turn.kinds famA (l.take k) ++ [x.f] := by
  have : l.take (k + 1) = l.take k ++ [x] := by rw [List.take_add_one, hx]; rfl
  unfold Turn.kinds
  rw [this, List.map_append]
  exact Turn.once_snoc _ _
theorem kinds_le (l : List Ad) (k : Nat) : (Turn.kinds famA (l.take k)).length ≤ k := by
  have h1 := Turn.kinds_len (fam := famA) (l.take k)
  have h2 : (l.take k).length ≤ k := by rw [List.length_take]; omega
  omega
theorem mem_take {l : List Int} {k : Nat} {y f : Int} (hy : l[k]? = some y) : decide (f ∈ l.take (k + 1)) = (decide (f ∈ l.take k) || decide (y = f)) := by
  have : l.take (k + 1) = l.take k ++ [y] := by rw [List.take_add_one, hy]; rfl
  rw [this]
  by_cases h : y = f
  · subst h; simp
  · simp [h, Ne.symm h]
set_option maxHeartbeats 4000000 in
set_option maxRecDepth 1000000 in
theorem rkinds_any (l : List Ad) (s : Option Addr) (c : Nat) (w : World) (hl : l.length ≤ 1000) (hR : AK.RowC w s c l) :
    Calls Try.prog 25 #[.slice s l.length c] w fun e w' => ∃ a1 c1, e = .returned (.slice a1 (Turn.kinds famA l).length c1) ∧ JK.RowC w' a1 c1 (Turn.kinds famA l) ∧ Below w.heap.size w w' := by
  have HR := Lib.hid hR
  clear hR
  go_enter Try.func25, Try.ntmps25
  go_wp2_with fail
  go_loopw [3, 4] (fun o i wr => ∃ (k m c1 : Nat) (a1 : Option Addr), o = .slice a1 m c1 ∧ i = .int .i64 k ∧ k ≤ l.length ∧ m ≤ k ∧ Hid (m = (Turn.kinds famA (l.take k)).length) ∧ Hid (JK.Own wr w.heap.size (.slice a1 m c1) (Turn.kinds famA (l.take k))) ∧ Hid (Below w.heap.size w wr)) (fun _ i _ => l.length - (intOf i).toNat)
  case atStart => exact ⟨0, 0, 0, none, rfl, rfl, by omega, by omega, Lib.hid rfl, Lib.hid (own_nil _ _), Lib.hid (Below.refl _ _)⟩
  case round =>
    obtain ⟨k, m, c1, a1, rfl, rfl, hk, hmk, hm, hO, hB⟩ := hrel
    obtain ⟨wo, rfl⟩ : ∃ W : World, W = wr := ⟨_, rfl⟩
    obtain ⟨K, hK⟩ : ∃ K, K = Turn.kinds famA (l.take k) := ⟨_, rfl⟩
    have HM := Lib.hid hm.out
    have HO := Lib.hid hO.out
    have HB := Lib.hid hB.out
    have hsz := HB.out.size
    rw [← hK] at HM HO
    clear hO hB hm
    by_cases hlt : k < l.length
    · obtain ⟨b, o, rfl, hb, hat⟩ := HR.out.2.2.2 (by omega)
      obtain ⟨x, hx⟩ : ∃ x, l[k]? = some x := ⟨_, List.getElem?_eq_getElem hlt⟩
      have hki : (k : Int) < (l.length : Int) := by omega
      have hst := kinds_take hx
      rw [← hK] at hst
      have hle := kinds_le l k
      have HC := Lib.hid (fun (W : World) (h : Below w.heap.size w W) => AK.ten (hat.below h hb) hx)
      have HST := Lib.hid hst
      have HKQ := Lib.hid hK
      clear hat hx hst hK
      go_wp2_with fail
      go_loopw [5, 6] (fun t j wr => ∃ q : Nat, t = .bool (decide (x.f ∈ K.take q)) ∧ j = .int .i64 q ∧ q ≤ m ∧ Hid (Below wo.heap.size wo wr)) (fun _ j _ => m - (intOf j).toNat)
      case atStart => exact ⟨0, by simp, rfl, by omega, Lib.hid (Below.refl _ _)⟩
      case round =>
        obtain ⟨q, rfl, rfl, hq, hB2⟩ := hrel
        have HB2 := Lib.hid hB2.out
        clear hB2
        by_cases hlt2 : q < m
        · obtain ⟨y, hy⟩ : ∃ y, K[q]? = some y := ⟨_, List.getElem?_eq_getElem (by have := HM.out; omega)⟩
          obtain ⟨b2, o2, rfl, hb2, hat2⟩ := (HO.out.row.below HB2.out).2.2.2 (by have := HM.out; omega)
          have f0 := JK.one hat2 hy
          obtain ⟨⟨c0, c1', c2, c3, c4⟩, c5, c6, c7, c8, c9⟩ := HC.out wr (HB.out.trans (HB2.out.mono hsz))
          have hqm : (q : Int) < (m : Int) := by omega
          have hmt := mem_take (f := x.f) hy
          clear hat2 hy
          cases hth : decide (x.f ∈ K.take q) with
          | true =>
            rw [hth] at hmt
            have HN := Lib.hid hmt
            clear hmt hth
            go_wp2_with fail
            go_quiet (fail)
            go_wp2_with fail
            go_roundw
            case rel => exact ⟨q + 1, by first | (rw [HN.out]; done) | (rw [HN.out]; rfl), by go_num, by omega, Lib.hid (below_drewN HB2.out _)⟩
            case measure => simp [intOf]; omega
          | false =>
            rw [hth, Bool.false_or] at hmt
            clear hth
            by_cases hyx : y = x.f
            · have hd : (y == x.f) = true := by simp [hyx]
              have HN := Lib.hid (show decide (x.f ∈ K.take (q + 1)) = true by rw [hmt]; exact decide_eq_true hyx)
              clear hmt hyx
              go_wp2_with fail
              go_quiet (fail)
              go_wp2_with fail
              go_roundw
              case rel => exact ⟨q + 1, by first | (rw [HN.out]; done) | (rw [HN.out]; rfl), by go_num, by omega, Lib.hid (below_drewN HB2.out _)⟩
              case measure => simp [intOf]; omega
            · have hd : (y == x.f) = false := by simp [hyx]
              have HN := Lib.hid (show decide (x.f ∈ K.take (q + 1)) = false by rw [hmt]; exact decide_eq_false hyx)
              clear hmt hyx
              go_wp2_with fail
              go_quiet (fail)
              go_wp2_with fail
              go_roundw
              case rel => exact ⟨q + 1, by first | (rw [HN.out]; done) | (rw [HN.out]; rfl), by go_num, by omega, Lib.hid (below_drewN HB2.out _)⟩
              case measure => simp [intOf]; omega
        · obtain rfl : q = m := by omega
          have HB3 := Lib.hid (HB.out.trans (HB2.out.mono hsz))
          have HO3 := Lib.hid (HO.out.below HB2.out (Nat.le_refl _))
          have hsz3 := HB3.out.size
          have hall : K.take q = K := List.take_of_length_le (by have := HM.out; omega)
          rw [hall]
          clear hall
          by_cases hin : x.f ∈ K
          · have HS := Lib.hid (show Turn.kinds famA (l.take (k + 1)) = K by rw [HST.out, if_pos hin])
            rw [decide_eq_true hin]
            clear hin
            go_wp2_with fail
            exact ⟨⟨k + 1, q, c1, a1, rfl, by go_num, by omega, by omega, Lib.hid (by rw [HS.out]; exact HM.out), Lib.hid (by rw [HS.out]; exact HO3.out), HB3⟩, by simp [intOf]; omega⟩
          · have HS := Lib.hid (show Turn.kinds famA (l.take (k + 1)) = K ++ [x.f] by rw [HST.out, if_neg hin])
            rw [decide_eq_false hin]
            clear hin
            obtain ⟨⟨c0, c1', c2, c3, c4⟩, c5, c6, c7, c8, c9⟩ := HC.out wr HB3.out
            go_wp2_with (at_builtin; refine JK.wpList_append_owned rfl _ _ rfl w.heap.size (.slice a1 q c1) rfl K (HO3.out.below (below1 wr _) (Nat.le_refl _)) (some ⟨wr.heap.size, 0, none⟩) 1 1 rfl [x.f] rfl (rowC_at (K := JK) wr 23 [x.f] _ _ 1 rfl rfl rfl (by simp)) (by have := HM.out; simp; omega) (by simp; omega) (Turn.kinds famA (l.take (k + 1))) HS.out ?_; intro a2 c2' w2 hO2 hG2; have HO2 := Lib.hid hO2; have HB4 := Lib.hid ((HB3.out.trans ((below1 wr (.cells #[.int .i8 x.f] 23)).mono hsz3)).grown hG2 (by simp; omega) (fun j hj => (HO3.out.lt j hj).1)); clear hO2 hG2)
            exact ⟨⟨k + 1, _, c2', a2, rfl, by go_num, by omega, kinds_le _ _, Lib.hid rfl, HO2, HB4⟩, by simp [intOf]; omega⟩
    · obtain rfl : k = l.length := by omega
      have hm := HM.out
      have hO := HO.out
      rw [List.take_length] at hK
      rw [hK] at hm hO
      go_wp2_with fail
      go_ret
      exact ⟨a1, c1, by rw [← hm]; rfl, hO.row, HB.out⟩
end Go.Proofs.Ytcihcdifjnobjaa
