/- The landed order: a set of addresses; each once. -/
import Derived.Test.YtcihcdifjnobjaaKeyA
set_option linter.unusedSimpArgs false
set_option linter.unusedVariables false
namespace Go.Proofs.Ytcihcdifjnobjaa
open Go.RowKit Go.Maps Go.Proofs.Ytcihcdifjnobjaa.Kind

theorem take_next {α : Type} {l : List α} {k : Nat} {x : α} (hx : l[k]? = some x) : l.take (k + 1) = l.take k ++ [x] := by rw [List.take_add_one, hx]; rfl
set_option maxHeartbeats 8000000 in
set_option maxRecDepth 1000000 in
theorem keys_any (l : List Ad) (s : Option Addr) (c : Nat) (w : World) (hl : l.length ≤ 1000) (hd : OkL l) (hR : AK.RowC w s c l) :
    Calls Try.prog 26 #[.slice s l.length c] w fun e w' => ∃ D n, e = .returned (.map (some w.heap.size)) ∧ OwnU w' w.heap.size n D ∧ SetTo l D ∧ Below w.heap.size w w' := by
  have HR := Lib.hid hR
  have HOk := Lib.hid hd
  have HLw := Lib.hid law_ad
  have hmm := fun (n : Int) (w : World) => run_make_hint 39 27 40 .i64 n Try.underlying39 w
  have HO0 := Lib.hid (World.ownsMap_made w Try.prog 27 (unitElem (H := Unit)))
  clear hR hd
  go_enter Try.func26, Try.ntmps26
  go_wp2_with fail
  go_loopw [11] (fun i wr => ∃ (k n : Nat) (D : DataW Unit), i = .int .i64 k ∧ k ≤ l.length ∧ Hid (n ≤ k) ∧ Hid (wr.ownsMap Try.prog 27 (unitElem (H := Unit)) w.heap.size n D) ∧ Hid (SetTo (l.take k) D) ∧ Hid (Below w.heap.size w wr)) (fun i _ => l.length - (intOf i).toNat)
  case atStart => exact ⟨0, 0, _, rfl, by omega, Lib.hid (Nat.le_refl _), HO0, Lib.hid setTo_nil, Lib.hid (below1 _ _)⟩
  case round =>
    obtain ⟨k, n, D, rfl, hk, hn, ho, hh, hb0⟩ := hrel
    have HN := Lib.hid hn.out
    have HO := Lib.hid ho.out
    have HH := Lib.hid hh.out
    have HB := Lib.hid hb0.out
    have hsz := HB.out.size
    clear ho hh hb0 hn
    by_cases hlt : k < l.length
    · obtain ⟨b, o, rfl, hb, hat⟩ := HR.out.2.2.2 (by omega)
      obtain ⟨x, hx⟩ : ∃ x, l[k]? = some x := ⟨_, List.getElem?_eq_getElem hlt⟩
      obtain ⟨⟨y0, y1, y2, y3, y4⟩, y5, y6, y7, y8, y9⟩ := AK.ten (hat.below HB.out hb) hx
      have HX := Lib.hid hx
      have HOa := Lib.hid (HOk.out x (List.mem_of_getElem? hx))
      have HK := Lib.hid (key_ad HOa.out)
      have HIs := Lib.hid ((HO.out.tidy HLw.out).isMap)
      have HBb := Lib.hid (HB.out.trans ((below1 wr (.cells #[.int .i8 x.f, .int .u16 x.g0, .int .u16 x.g1, .int .u16 x.g2, .int .u16 x.g3, .int .u16 x.g4, .int .u16 x.g5, .int .u16 x.g6, .int .u16 x.g7, .int .i64 x.p] 27)).mono hsz))
      clear hat hx
      go_wp2_with (first | (at_mapUpdate; refine wpList_mapUpdate_own _ rfl _ _ _ 39 rfl 27 40 HLw.out Try.underlying39 _ w.heap.size n D rfl (HO.out.alloc _) (by have := HN.out; unfold maxLen; omega) _ _ _ rfl rfl HK.out _ [] unitElem_mk ?_; intro w2 hown2 hgr2; have HO2 := Lib.hid hown2; have HB2 := Lib.hid (HBb.out.grown hgr2 HBb.out.size (fun j hj => by cases hj; exact Nat.le_refl _)); clear hown2 hgr2) | go_in)
      go_roundw
      case rel => exact ⟨k + 1, n + 1, _, by go_num, by omega, Lib.hid (by have := HN.out; omega), HO2, Lib.hid (by rw [take_next HX.out]; exact setTo_put HH.out HIs.out HOa.out), Lib.hid HB2.out⟩
      case measure => simp [intOf]; omega
    · obtain rfl : k = l.length := by omega
      have hh := HH.out
      rw [List.take_length] at hh
      have HF := Lib.hid hh
      clear hh
      go_wp2_with fail
      go_ret
      exact ⟨D, n, rfl, HO.out, HF.out, HB.out⟩

set_option maxHeartbeats 8000000 in
set_option maxRecDepth 1000000 in
theorem once_spec : OnceSpec := by
  intro l s c L w hL hl hR
  obtain ⟨hL, hd⟩ := hL
  have HR := Lib.hid hR
  have HL := Lib.hid hL
  have HOk := Lib.hid hd
  have HLw := Lib.hid law_ad
  have hmm := fun (n : Int) (w : World) => run_make_hint 39 27 40 .i64 n Try.underlying39 w
  have HO0 := Lib.hid (World.ownsMap_made w Try.prog 27 (unitElem (H := Unit)))
  clear hR hd hL
  go_enter Try.func12, Try.ntmps12
  go_wp2_with fail
  go_loopw [4, 14] (fun o i wr => ∃ (k n m c1 : Nat) (a1 : Option Addr) (D : DataW Unit), o = .slice a1 m c1 ∧ i = .int .i64 k ∧ k ≤ l.length ∧ m ≤ k ∧ Hid (n ≤ k) ∧ Hid (m = (Turn.once (l.take k)).length) ∧ Hid (wr.ownsMap Try.prog 27 (unitElem (H := Unit)) w.heap.size n D) ∧ Hid (SetTo (Turn.once (l.take k)) D) ∧ Hid (AK.Own wr (w.heap.size + 1) (.slice a1 m c1) (Turn.once (l.take k))) ∧ Hid (Below w.heap.size w wr)) (fun _ i _ => l.length - (intOf i).toNat)
  case atStart => exact ⟨0, 0, 0, 0, none, _, rfl, rfl, by omega, by omega, Lib.hid (Nat.le_refl _), Lib.hid rfl, HO0, Lib.hid setTo_nil, Lib.hid (own_nil _ _), Lib.hid (below1 _ _)⟩
  case round =>
    obtain ⟨k, n, m, c1, a1, D, rfl, rfl, hk, hmk, hn, hm, ho, hh, hO, hb0⟩ := hrel
    have HN := Lib.hid hn.out
    have HM := Lib.hid hm.out
    have HO := Lib.hid ho.out
    have HH := Lib.hid hh.out
    have HW := Lib.hid hO.out
    have HB := Lib.hid hb0.out
    have hsz := HB.out.size
    have hmb := HO.out.lt
    clear ho hh hb0 hn hm hO
    by_cases hlt : k < l.length
    · obtain ⟨b, o, rfl, hb, hat⟩ := HR.out.2.2.2 (by omega)
      obtain ⟨x, hx⟩ : ∃ x, l[k]? = some x := ⟨_, List.getElem?_eq_getElem hlt⟩
      obtain ⟨⟨y0, y1, y2, y3, y4⟩, y5, y6, y7, y8, y9⟩ := AK.ten (hat.below HB.out hb) hx
      have hst := once_take hx
      have hle := once_le l (k + 1)
      have HOa := Lib.hid (HOk.out x (List.mem_of_getElem? hx))
      have HK := Lib.hid (key_ad HOa.out)
      have HIs := Lib.hid ((HO.out.tidy HLw.out).isMap)
      have hhas := HH.out x HOa.out
      have hb2 := below2 wr (.cells #[.int .i8 x.f, .int .u16 x.g0, .int .u16 x.g1, .int .u16 x.g2, .int .u16 x.g3, .int .u16 x.g4, .int .u16 x.g5, .int .u16 x.g6, .int .u16 x.g7, .int .i64 x.p] 27) (.cells #[] 40)
      have HBb := Lib.hid (HB.out.trans (hb2.mono hsz))
      have HWb := Lib.hid (HW.out.below hb2 (Nat.le_refl _))
      have HG := Lib.hid (laid2 wr (.cells #[.int .i8 x.f, .int .u16 x.g0, .int .u16 x.g1, .int .u16 x.g2, .int .u16 x.g3, .int .u16 x.g4, .int .u16 x.g5, .int .u16 x.g6, .int .u16 x.g7, .int .i64 x.p] 27) (.cells #[] 40)).1
      have HLe := Lib.hid hle
      clear hat hx hb2 hle
      by_cases hin : x ∈ Turn.once (l.take k)
      · rw [if_pos hin] at hst
        rw [decide_eq_true hin] at hhas
        have HS := Lib.hid hst
        have HHas := Lib.hid hhas
        clear hst hin hhas
        go_wp2_with (first | (at_lookup; refine wpList_lookup_own_unit _ rfl _ _ 39 rfl 27 40 HLw.out Try.underlying39 (zero_unit _) w.heap.size n D rfl (HO.out.alloc _) _ _ rfl HK.out ?_; rw [HHas.out]) | go_in)
        go_roundw
        case rel => exact ⟨k + 1, n, m, c1, a1, D, rfl, by go_num, by omega, by omega, Lib.hid (by have := HN.out; omega), Lib.hid (by rw [HS.out]; exact HM.out), Lib.hid ((HO.out.alloc _).alloc _), Lib.hid (by rw [HS.out]; exact HH.out), Lib.hid (by rw [HS.out]; exact HWb.out), HBb⟩
        case measure => simp [intOf]; omega
      · rw [if_neg hin] at hst
        rw [decide_eq_false hin] at hhas
        have HS := Lib.hid hst
        have HHas := Lib.hid hhas
        clear hst hin hhas
        go_wp2_with (first | (at_lookup; refine wpList_lookup_own_unit _ rfl _ _ 39 rfl 27 40 HLw.out Try.underlying39 (zero_unit _) w.heap.size n D rfl (HO.out.alloc _) _ _ rfl HK.out ?_; rw [HHas.out]) | (at_mapUpdate; refine wpList_mapUpdate_own _ rfl _ _ _ 39 rfl 27 40 HLw.out Try.underlying39 _ w.heap.size n D rfl ((HO.out.alloc _).alloc _) (by have := HN.out; unfold maxLen; omega) _ _ _ rfl rfl HK.out _ [] unitElem_mk ?_; intro w2 hown2 hgr2; have HO2 := Lib.hid hown2; have HB2 := Lib.hid (HBb.out.grown hgr2 HBb.out.size (fun j hj => by cases hj; exact Nat.le_refl _)); have HW2 := Lib.hid (own_grown HWb.out hgr2 (Nat.lt_succ_self _)); have hs2 := hgr2.size; obtain ⟨⟨z0, z1, z2, z3, z4, z5, z6, z7, z8, z9⟩, _⟩ := boxes10 ((hgr2.block wr.heap.size (by simp; omega) (by intro e; injection e with e; omega)).trans HG.out); clear hown2 hgr2) | (at_builtin; refine AK.wpList_append_owned rfl _ _ rfl (w.heap.size + 1) (.slice a1 m c1) rfl (Turn.once (l.take k)) (HW2.out.below (below1 w2 _) (Nat.le_refl _)) (some ⟨w2.heap.size, 0, none⟩) 1 1 rfl [x] rfl (rowC_at (K := AK) w2 27 [x] _ _ 1 rfl rfl rfl (by simp)) (by have := HM.out; simp; omega) (by simp at hs2 ⊢; omega) (Turn.once (l.take (k + 1))) HS.out ?_; intro a2 c2 w3 hO3 hG3; have HW3 := Lib.hid hO3; have HO3 := Lib.hid (map_grown (HO2.out.alloc (.cells #[.int .i8 x.f, .int .u16 x.g0, .int .u16 x.g1, .int .u16 x.g2, .int .u16 x.g3, .int .u16 x.g4, .int .u16 x.g5, .int .u16 x.g6, .int .u16 x.g7, .int .i64 x.p] 27)) hG3 (fun e => by have := (HW2.out.lt _ e).1; omega)); have HB3 := Lib.hid ((HB2.out.trans ((below1 w2 (.cells #[.int .i8 x.f, .int .u16 x.g0, .int .u16 x.g1, .int .u16 x.g2, .int .u16 x.g3, .int .u16 x.g4, .int .u16 x.g5, .int .u16 x.g6, .int .u16 x.g7, .int .i64 x.p] 27)).mono HB2.out.size)).grown hG3 (by have := HB2.out.size; simp; omega) (fun j hj => by have := (HW2.out.lt j hj).1; omega)); clear hO3 hG3) | go_in)
        go_roundw
        case rel => exact ⟨k + 1, n + 1, _, c2, a2, _, rfl, by go_num, by omega, HLe.out, Lib.hid (by have := HN.out; omega), Lib.hid rfl, HO3, Lib.hid (by rw [HS.out]; exact setTo_put HH.out HIs.out HOa.out), HW3, HB3⟩
        case measure => simp [intOf]; omega
    · obtain rfl : k = l.length := by omega
      go_wp2_with fail
      go_ret
      have hm := HM.out
      have hO := HW.out
      rw [List.take_length, ← HL.out] at hm hO
      exact ⟨a1, c1, by rw [← hm]; rfl, hO.row, HB.out⟩
end Go.Proofs.Ytcihcdifjnobjaa
