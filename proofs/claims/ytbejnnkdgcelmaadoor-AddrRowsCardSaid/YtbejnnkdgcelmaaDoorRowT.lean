/- Row: a row of addresses, told. -/
import Derived.Test.YtbejnnkdgcelmaaDoorRowP
set_option linter.unusedSimpArgs false
set_option linter.unusedVariables false
namespace Go.Proofs.YtbejnnkdgcelmaaDoor
open Go.RowKit
def P.rowV (o : Option (List UInt8)) : Value := .tuple #[.string ⟨(o.getD []).toArray⟩, .int .i64 (if o.isSome then 0 else 20)]
theorem P.rowP_no (l : List Ad) (h : 16 < l.length ∨ l.all mayP = false) : P.rowP l = none := by unfold P.rowP; rw [if_pos h]
theorem P.rowP_yes (l : List Ad) (h : l.length ≤ 16) (h2 : l.all mayP = true) : P.rowP l = some (Lib.join (l.map P.textP) [32]) := by
  unfold P.rowP
  rw [if_neg]
  rintro (h' | h')
  · omega
  · rw [h2] at h'; cases h'
theorem P.row_len (l : List Ad) (h : l.length ≤ 16) (h2 : l.all mayP = true) (hok : ∀ x ∈ l, x.Ok) : (Lib.join (l.map P.textP) [32]).length ≤ 2016 := by
  have h1 := P.join_le 32 125 (l.map P.textP) (fun t ht => by
    rw [List.mem_map] at ht
    obtain ⟨x, hx, rfl⟩ := ht
    exact P.text_len x (hok x hx) (List.all_eq_true.1 h2 x hx))
  rw [List.length_map] at h1
  omega
theorem all_take (l : List Ad) (k : Nat) (x : Ad) (hx : l[k]? = some x) (h : (l.take k).all mayP = true) (h2 : mayP x = true) : (l.take (k + 1)).all mayP = true := by
  rw [List.take_add_one, hx, List.all_append, h]; simp [h2]

set_option maxHeartbeats 8000000 in
set_option maxRecDepth 1000000 in
theorem row_any (l : List Ad) (a : Option Addr) (c : Nat) (w : World) (hl : l.length ≤ 100000) (hA : RowAt w a l) (hok : ∀ x ∈ l, x.Ok) (hE : Env w) :
    Calls Tryd.prog 9 #[.slice a l.length c] w fun e w' => e = .returned (P.rowV (P.rowP l)) ∧ Below w.heap.size w w' := by
  obtain ⟨i0, hi, hz0, hz1, hz2⟩ := info_parts iStr
  have HE := Lib.hid hE
  have HA := Lib.hid hA
  have HO := Lib.hid hok
  clear hA hE hok
  by_cases h16 : 16 < l.length
  · have HP := Lib.hid (P.rowP_no l (.inl h16))
    go_enter Tryd.func9, Tryd.ntmps9
    go_wp2_with fail
    go_ret2
    rw [HP.out]
    exact ⟨rfl, Below.refl _ _⟩
  · go_enter Tryd.func9, Tryd.ntmps9
    go_wp2_with fail
    go_loopw [4, 14] (fun u4 i wr => ∃ k : Nat, i = .int .i64 k ∧ k ≤ l.length ∧ Hid ((l.take k).all mayP = true) ∧ Below w.heap.size w wr ∧ wr.ownsRow w.heap.size 9 1 u4 k (P.strs ((l.take k).map P.textP))) (fun _ i _ => l.length - (intOf i).toNat)
    case atStart => exact ⟨0, rfl, by omega, Lib.hid rfl, Below.refl _ _, World.ownsRow_nil _ _ _ _⟩
    case round =>
      obtain ⟨k, rfl, hk, hall, hbw, hown⟩ := hrel
      have hbs := hbw.size
      by_cases hlt : k < l.length
      · obtain ⟨b, o, rfl, hb, hat⟩ := (HA.out.below hbw) (by omega)
        obtain ⟨x, hx⟩ : ∃ x, l[k]? = some x := ⟨_, List.getElem?_eq_getElem hlt⟩
        obtain ⟨c0, c1, c2, c3, c4, c5, c6, c7, c8, c9⟩ := hat.cells k x hx
        have HX := Lib.hid (HO.out x (List.mem_of_getElem? hx))
        cases hm : mayP x with
        | false =>
          have HP := Lib.hid (P.rowP_no l (.inr (by
            cases h : l.all mayP with
            | false => rfl
            | true => have := List.all_eq_true.1 h x (List.mem_of_getElem? hx); rw [hm] at this; cases this)))
          have HN := Lib.hid (fun W => text_no x W hm)
          simp only [Ad.v, Ad.enc] at HN
          have hb1 : Below w.heap.size w (wr.alloc (Obj.cells #[.int .i8 x.f, .int .u16 x.g0, .int .u16 x.g1, .int .u16 x.g2, .int .u16 x.g3, .int .u16 x.g4, .int .u16 x.g5, .int .u16 x.g6, .int .u16 x.g7, .int .i64 x.p] 36)) := hbw.alloc hbs _
          clear hx hat hm
          go_wp2_with fail
          with_reducible refine (HN.out (wr.alloc (Obj.cells #[.int .i8 x.f, .int .u16 x.g0, .int .u16 x.g1, .int .u16 x.g2, .int .u16 x.g3, .int .u16 x.g4, .int .u16 x.g5, .int .u16 x.g6, .int .u16 x.g7, .int .i64 x.p] 36))).mono ?_
          rintro e w2 ⟨rfl, hb2⟩
          go_wp2_with fail
          go_ret2
          rw [HP.out]
          exact ⟨rfl, hb1.trans (hb2.mono hb1.size)⟩
        | true =>
          have HY := Lib.hid (fun W h => text_yes x W hm HX.out h)
          simp only [Ad.v, Ad.enc] at HY
          have HT := Lib.hid (show P.strs ((l.take (k + 1)).map P.textP) = P.strs ((l.take k).map P.textP) ++ [.string ⟨(P.textP x).toArray⟩] by
            rw [List.take_add_one, hx]; simp [P.strs])
          have HAll := Lib.hid (all_take l k x hx hall.out hm)
          have hb1 : Below w.heap.size w (wr.alloc (Obj.cells #[.int .i8 x.f, .int .u16 x.g0, .int .u16 x.g1, .int .u16 x.g2, .int .u16 x.g3, .int .u16 x.g4, .int .u16 x.g5, .int .u16 x.g6, .int .u16 x.g7, .int .i64 x.p] 36)) := hbw.alloc hbs _
          clear hx hat hm
          generalize (⟨(P.textP x).toArray⟩ : ByteArray) = S at *
          go_wp2_with fail
          have HC := HY.out (wr.alloc (Obj.cells #[.int .i8 x.f, .int .u16 x.g0, .int .u16 x.g1, .int .u16 x.g2, .int .u16 x.g3, .int .u16 x.g4, .int .u16 x.g5, .int .u16 x.g6, .int .u16 x.g7, .int .i64 x.p] 36)) (HE.out.below hb1)
          with_reducible refine HC.mono ?_
          clear HC
          rintro e w2 ⟨rfl, hb2⟩
          have hown2 := own_below' (hown.alloc _) hb2
          have hb3 := hb1.trans (hb2.mono hb1.size)
          have hbs3 := hb3.size
          go_wp2_with (at_builtin; refine wpList_append_own _ rfl _ _ 44 rfl w.heap.size 9 i0 (.string ByteArray.empty) 1 16 Tryd.underlying44 hi hz0 hz1 hz2 rfl (by decide) _ _ _ rfl (hown2.alloc _) ⟨w2.heap.size, 0, none⟩ 1 1 _ rfl rfl (cell_one_new _ _ _) (by intro u hu; simp at hu; subst hu; rfl) (by unfold maxLen; omega) (by omega) (by simp; omega) ?_; intro v' w' hown' hgrow' _)
          go_roundw
          case rel => exact ⟨k + 1, by go_num, by omega, HAll, (hb3.alloc hb3.size _).grown hgrow' (by simp; omega) (fun k hk => (hown2.lt k hk).1), by rw [HT.out]; exact hown'⟩
          case measure => simp [intOf]; omega
      · obtain rfl : k = l.length := by omega
        have hall2 := hall.out
        rw [List.take_length] at hall2
        have HP := Lib.hid (show P.rowV (P.rowP l) = .tuple #[.string ⟨(Lib.join (l.map P.textP) (⟨#[32]⟩ : ByteArray).data.toList).toArray⟩, .int .i64 0] by rw [P.rowP_yes l (by omega) hall2]; rfl)
        have hlen := P.row_len l (by omega) hall2 HO.out
        have hown' : wr.ownsRow w.heap.size 9 1 u4 (l.map P.textP).length (P.strs (l.map P.textP)) := by rw [List.length_map]; rw [List.take_length] at hown; exact hown
        have HJ := Lib.hid (join_row (l.map P.textP) ⟨#[32]⟩ wr w.heap.size u4 hown' (by simp; omega) (by
          show (Lib.join (l.map P.textP) [32]).length ≤ _
          omega))
        generalize (⟨(Lib.join (l.map P.textP) (⟨#[32]⟩ : ByteArray).data.toList).toArray⟩ : ByteArray) = S at *
        clear hown hown' hlen hall hall2
        go_wp2_with fail
        with_reducible refine HJ.out.mono ?_
        rintro e w1 ⟨rfl, hb1⟩
        go_wp2_with fail
        go_ret2
        exact ⟨by rw [HP.out]; rfl, hbw.trans (hb1.mono hbs)⟩
end Go.Proofs.YtbejnnkdgcelmaaDoor
