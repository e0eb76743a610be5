/- Check: whether a plan may be. -/
import Derived.Test.YtlceeeajhejedaaZoneMay
set_option linter.unusedSimpArgs false
set_option linter.unusedVariables false
namespace Go.Proofs.Ytlceeeajhejedaa
open Go.RowKit Go.Proofs.Ytlceeeajhejedaa.Kind

theorem assert_zone (v : Value) (W : World) : (Instr.typeAssert (.iface 36 v) 76 36 true).run Try.prog W = .ok (.tuple #[v, .bool true]) W := by kernel_rfl
theorem assert_not (v : Value) (W : World) : (Instr.typeAssert (.iface 39 v) 76 36 true).run Try.prog W = .ok (.tuple #[.agg #[.string { data := #[] }, .slice none 0 0], .bool false]) W := by kernel_rfl
theorem assert_row (v : Value) (W : World) : (Instr.typeAssert (.iface 39 v) 76 39 true).run Try.prog W = .ok (.tuple #[v, .bool true]) W := by kernel_rfl

theorem own_beside {α β : Type} {Pr : Program} {K : Kind Pr α} {K2 : Kind Pr β} {w w' : World} {base base2 : Nat} {v v2 : Value} {l : List α} {l2 : List β} (h : K.Own w base v l) (h2 : K2.Own w base2 v2 l2) (ht : K2.T ≠ K.T) (hg : w.grownBy w' v2.ownBlock) : K.Own w' base v l := by
  refine World.ownsRow.kept h hg ?_
  cases e2 : v2.ownBlock with
  | none =>
    cases e1 : v.ownBlock with
    | none => exact .inl rfl
    | some g => exact .inr (by simp)
  | some g =>
    rcases h2.2 with ⟨rfl, _⟩ | ⟨g', cap, cur, rfl, _, hg', _⟩
    · simp [Value.ownBlock] at e2
    · have e3 : g' = g := by simpa [Value.ownBlock] using e2
      subst e3
      exact .inr (h.ne hg' ht)
theorem own_grown {α : Type} {Pr : Program} {K : Kind Pr α} {W0 w w' : World} {base : Nat} {v : Value} {l : List α} (h : K.Own w base v l) (hb : Below base W0 w) (hg : w.grownBy w' v.ownBlock) (hs : base ≤ w.heap.size) : Below base W0 w' :=
  hb.grown hg hs (fun g hg => (World.ownsRow.lt h g hg).1)
theorem map_take_more {α β : Type} (f : α → β) {l : List α} {k : Nat} {x : α} (hx : l[k]? = some x) : (l.take (k + 1)).map f = (l.take k).map f ++ [f x] := by rw [take_next hx]; simp
theorem box11 {w : World} {g : Nat} {x0 x1 x2 x3 x4 x5 x6 x7 x8 x9 x : Value} {t : TypeId} (h : w.heap[g]? = some (.cells #[x0, x1, x2, x3, x4, x5, x6, x7, x8, x9, x] t (0, 0))) :
    (w.cell? ⟨g, 0, none⟩ = some x0 ∧ w.cell? ⟨g, 1, none⟩ = some x1 ∧ w.cell? ⟨g, 2, none⟩ = some x2 ∧ w.cell? ⟨g, 3, none⟩ = some x3 ∧ w.cell? ⟨g, 4, none⟩ = some x4) ∧
    (w.cell? ⟨g, 5, none⟩ = some x5 ∧ w.cell? ⟨g, 6, none⟩ = some x6 ∧ w.cell? ⟨g, 7, none⟩ = some x7 ∧ w.cell? ⟨g, 8, none⟩ = some x8 ∧ w.cell? ⟨g, 9, none⟩ = some x9) := by
  simp [World.cell?, h]
theorem take_past {α : Type} {l : List α} {k : Nat} (h : l.length ≤ k) : l.take (k + 1) = l.take k := by rw [List.take_of_length_le h, List.take_of_length_le (by omega)]
theorem noneTo_past {α : Type} {p : α → Bool} {l : List α} {k : Nat} (h : NoneTo p l k) (hk : l.length ≤ k) : NoneTo p l (k + 1) := fun j y _ hy => h j y (by have := (List.getElem?_eq_some_iff.1 hy).1; omega) hy
theorem noneTo_all {α : Type} {p : α → Bool} {l : List α} {k : Nat} (h : NoneTo p l k) (hk : l.length ≤ k) : NoneTo p l l.length := fun j y hj hy => h j y (by omega) hy
def partsB (Zs : List Zo) (Fs : List Fo) : Bool := Zs.all zokB && Fs.all fokB && decide ((Zs.map (·.name)).Nodup) && decide ((Fs.map (·.ad)).Nodup)

set_option maxHeartbeats 16000000 in
set_option maxRecDepth 1000000 in
theorem mayParts_any (zs : List Zv) (fs : List Fv) (Zs : List Zo) (Fs : List Fo) (m : Nat) (hm : m = (zs.map Pt.z ++ fs.map Pt.f).length) (a : Option Addr) (c : Nat) (w : World) (hR : PK.RowC w a c (zs.map Pt.z ++ fs.map Pt.f)) (hZ : Each ZoP w zs Zs) (hF : Each FoP w fs Fs) (hs : ∀ z ∈ Zs, z.name.size ≤ 4000) (hz8 : zs.length ≤ 8) (hf32 : fs.length ≤ 32) :
    Calls Try.prog 27 #[.slice a m c] w fun e w' => e = .returned (.bool (partsB Zs Fs)) ∧ Below w.heap.size w w' := by
  obtain ⟨L, hL⟩ : ∃ L, L = zs.map Pt.z ++ fs.map Pt.f := ⟨_, rfl⟩
  have hLl : L.length = zs.length + fs.length := by rw [hL]; simp
  rw [← hL] at hm hR
  subst hm
  have hzl := hZ.1
  have hfl := hF.1
  have HLz := Lib.hid (show ∀ (k : Nat) (x : Zv), zs[k]? = some x → L[k]? = some (Pt.z x) from fun k x hx => by
    have hk := (List.getElem?_eq_some_iff.1 hx).1
    rw [hL, List.getElem?_append_left (by simpa using hk), List.getElem?_map, hx]; rfl)
  have HLf := Lib.hid (show ∀ (k : Nat) (x : Fv), zs.length ≤ k → fs[k - zs.length]? = some x → L[k]? = some (Pt.f x) from fun k x hk hx => by
    rw [hL, List.getElem?_append_right (by simpa using hk), List.getElem?_map, List.length_map, hx]; rfl)
  have HR := Lib.hid hR
  have HZ := Lib.hid hZ
  have HF := Lib.hid hF
  have HS := Lib.hid hs
  obtain ⟨Z, hZn⟩ : ∃ Z, Z = zs.length := ⟨_, rfl⟩
  rw [← hZn] at hLl hzl hz8
  generalize hM : L.length = M at *
  have HM := Lib.hid hM
  have HE := Lib.hid (show M = Z + fs.length ∧ Z = Zs.length ∧ fs.length = Fs.length ∧ Z = zs.length ∧ Z ≤ 8 ∧ fs.length ≤ 32 from ⟨hLl, hzl, hfl, hZn, hz8, hf32⟩)
  clear hR hZ hF hs hL hM hLl hzl hfl hZn hz8 hf32
  have hM40 : (M : Int) ≤ 40 := by have := HE.out; omega
  have hz1 := assert_zone
  have hz2 := assert_not
  have hz3 := assert_row
  go_enter Try.func27, Try.ntmps27
  go_wp2_with fail
  go_loopw [3, 4, 11] (fun r3 r4 i wr => ∃ (k n3 n4 : Nat) (a3 a4 : Option Addr) (c3 c4 : Nat), r3 = .slice a3 n3 c3 ∧ r4 = .slice a4 n4 c4 ∧ i = .int .i64 k ∧ k ≤ M ∧ (n3 ≤ 8 ∧ n4 ≤ 32) ∧ Hid (n3 = (Zs.take k).length ∧ n4 = (Fs.take (k - Z)).length) ∧ Hid (TK.Own wr w.heap.size (.slice a3 n3 c3) ((Zs.take k).map (·.name))) ∧ Hid (AK.Own wr w.heap.size (.slice a4 n4 c4) ((Fs.take (k - Z)).map (·.ad))) ∧ Hid (NoneTo (fun z => !zokB z) Zs k) ∧ Hid (NoneTo (fun z => !fokB z) Fs (k - Z)) ∧ Below w.heap.size w wr) (fun _ _ i _ => M - (intOf i).toNat)
  case atStart => exact ⟨0, 0, 0, none, none, 0, 0, rfl, rfl, rfl, by omega, by omega, Lib.hid (by simp), Lib.hid (own_nil _ _), Lib.hid (by simp; exact own_nil _ _), Lib.hid (noneTo_zero _ _), Lib.hid (by simp; exact noneTo_zero _ _), Below.refl _ _⟩
  case round =>
    obtain ⟨k, n3, n4, a3, a4, c3, c4, rfl, rfl, rfl, hk, hn34, hnn, ho3, ho4, hno3, hno4, hb⟩ := hrel
    have HNN := Lib.hid hnn.out
    have HO3 := Lib.hid ho3.out
    have HO4 := Lib.hid ho4.out
    have HN3 := Lib.hid hno3.out
    have HN4 := Lib.hid hno4.out
    have HB := Lib.hid hb
    have hbs := hb.size
    clear hnn ho3 ho4 hno3 hno4 hb
    by_cases hkz : k < Z
    · obtain ⟨⟨xn, xh⟩, hx⟩ : ∃ x, zs[k]? = some x := ⟨_, List.getElem?_eq_getElem (by have := HE.out; omega)⟩
      obtain ⟨b, hbz⟩ : ∃ b, Zs[k]? = some b := ⟨_, List.getElem?_eq_getElem (by have := HE.out; omega)⟩
      obtain rfl : xn = b.name := (HZ.out.2 k _ b hx hbz).1
      obtain ⟨x, hxe⟩ : ∃ x : Zv, x = ⟨b.name, xh⟩ := ⟨_, rfl⟩
      obtain ⟨g, o, rfl, hg, hat⟩ := HR.out.2.2.2 (by rw [HM.out]; have := HE.out; omega)
      have y0 := PK.one (hat.below HB.out hg) (HLz.out k _ hx)
      have HP := Lib.hid ((HZ.out.below zoP_steady HB.out).2 k _ b hx hbz)
      have HX := Lib.hid hbz
      have HSz := Lib.hid (HS.out b (List.mem_of_getElem? hbz))
      simp only [Pt.v, Zv.v] at y0
      clear hx hbz hat hxe x
      have HBa := Lib.hid (below1 wr (.cells #[.string b.name, .slice xh.a xh.n xh.c] 36))
      have HLa := Lib.hid (laid1 wr (.cells #[.string b.name, .slice xh.a xh.n xh.c] 36))
      have HCz := Lib.hid (zone_may ⟨b.name, xh⟩ b (wr.alloc (.cells #[.string b.name, .slice xh.a xh.n xh.c] 36)) (zoP_steady _ _ _ _ HP.out HBa.out) HSz.out)
      have hkM : (k : Int) < (M : Int) := by have := HE.out; omega
      go_wp2_with fail
      with_reducible refine HCz.out.mono ?_
      rintro e w2 ⟨rfl, hb2⟩
      have HB2 := Lib.hid (HBa.out.trans (hb2.mono (by simp)))
      have HL2 := Lib.hid ((hb2.block wr.heap.size (by simp)).trans HLa.out)
      clear hb2 HCz HBa HLa y0
      obtain ⟨y0, y1⟩ := cells2 HL2.out
      cases hq : zokB b
      · have HQ := Lib.hid hq
        clear hq
        go_wp2_with fail
        go_ret
        exact ⟨by unfold partsB; rw [all_false HX.out HQ.out]; rfl, HB.out.trans (HB2.out.mono hbs)⟩
      · have HQ := Lib.hid hq
        clear hq
        have hsz := HB2.out.size
        have hkk : k + 1 - Z = k - Z := by have := HE.out; omega
        have hLN : ((Zs.take (k + 1)).map (·.name)).length = n3 + 1 := by have := HNN.out.1; have := HE.out; simp at *; omega
        have hn38 : n3 < 8 := by have := HNN.out.1; have := HE.out; simp at *; omega
        have HMT := Lib.hid (map_take_more (·.name) HX.out)
        go_wp2_with (at_builtin; refine TK.wpList_append_owned rfl _ _ rfl w.heap.size (.slice a3 n3 c3) rfl ((Zs.take k).map (·.name)) (HO3.out.below (HB2.out.trans ((below1 w2 _).mono hsz)) (Nat.le_refl _)) (some ⟨w2.heap.size, 0, none⟩) 1 1 rfl [b.name] rfl (rowC_at (K := TK) w2 9 [b.name] _ _ 1 rfl rfl rfl (by simp)) (by have := HNN.out.1; have := HE.out; simp at *; omega) (by simp; omega) ((Zs.take (k + 1)).map (·.name)) HMT.out ?_; intro a1 c1 w3 hO hG; rw [hLN] at hO ⊢; have HO3n := Lib.hid hO; have HG := Lib.hid hG; clear hO hG)
        have HB3 := Lib.hid (HB.out.trans ((HB2.out.trans ((below1 w2 (.cells #[.string b.name] 9)).mono hsz)).mono hbs))
        have HOo := Lib.hid (HO3.out.below (HB2.out.trans ((below1 w2 (.cells #[.string b.name] 9)).mono hsz)) (Nat.le_refl _))
        have HO4b := Lib.hid (HO4.out.below (HB2.out.trans ((below1 w2 (.cells #[.string b.name] 9)).mono hsz)) (Nat.le_refl _))
        go_roundw
        case rel => exact ⟨k + 1, n3 + 1, n4, a1, a4, c1, c4, rfl, rfl, by go_num, by have := HE.out; omega, by omega, Lib.hid (by rw [hkk]; have := HNN.out; have := HE.out; simp at *; omega), HO3n, Lib.hid (by rw [hkk]; exact own_beside HO4b.out HOo.out (by decide) HG.out), Lib.hid (noneTo_step HN3.out HX.out (by rw [HQ.out]; rfl)), Lib.hid (by rw [hkk]; exact HN4.out), own_grown HOo.out HB3.out HG.out (by simp; omega)⟩
        case measure => simp [intOf]; omega
    · by_cases hkM : k < M
      · obtain ⟨⟨ad, xh⟩, hx⟩ : ∃ x, fs[k - Z]? = some x := ⟨_, List.getElem?_eq_getElem (by have := HE.out; omega)⟩
        obtain ⟨b, hbz⟩ : ∃ b, Fs[k - Z]? = some b := ⟨_, List.getElem?_eq_getElem (by have := HE.out; omega)⟩
        obtain rfl : ad = b.ad := (HF.out.2 _ _ b hx hbz).1
        obtain ⟨g, o, rfl, hg, hat⟩ := HR.out.2.2.2 (by rw [HM.out]; omega)
        have y0 := PK.one (hat.below HB.out hg) (HLf.out k _ (by have := HE.out; omega) (by have := HE.out; rw [← this.2.2.2.1]; exact hx))
        have HP := Lib.hid ((HF.out.below foP_steady HB.out).2 _ _ b hx hbz)
        have HX := Lib.hid hbz
        simp only [Pt.v, Fv.v] at y0
        clear hx hbz hat
        have HBa := Lib.hid (below1 wr (.cells #[.int .i8 b.ad.f, .int .u16 b.ad.g0, .int .u16 b.ad.g1, .int .u16 b.ad.g2, .int .u16 b.ad.g3, .int .u16 b.ad.g4, .int .u16 b.ad.g5, .int .u16 b.ad.g6, .int .u16 b.ad.g7, .int .i64 b.ad.p, .slice xh.a xh.n xh.c] 39))
        have HLa := Lib.hid (laid1 wr (.cells #[.int .i8 b.ad.f, .int .u16 b.ad.g0, .int .u16 b.ad.g1, .int .u16 b.ad.g2, .int .u16 b.ad.g3, .int .u16 b.ad.g4, .int .u16 b.ad.g5, .int .u16 b.ad.g6, .int .u16 b.ad.g7, .int .i64 b.ad.p, .slice xh.a xh.n xh.c] 39))
        have HCz := Lib.hid (row_may ⟨b.ad, xh⟩ b (wr.alloc (.cells #[.int .i8 b.ad.f, .int .u16 b.ad.g0, .int .u16 b.ad.g1, .int .u16 b.ad.g2, .int .u16 b.ad.g3, .int .u16 b.ad.g4, .int .u16 b.ad.g5, .int .u16 b.ad.g6, .int .u16 b.ad.g7, .int .i64 b.ad.p, .slice xh.a xh.n xh.c] 39)) (foP_steady _ _ _ _ HP.out HBa.out))
        have hkMi : (k : Int) < (M : Int) := by omega
        go_wp2_with fail
        with_reducible refine HCz.out.mono ?_
        rintro e w2 ⟨rfl, hb2⟩
        have HB2 := Lib.hid (HBa.out.trans (hb2.mono (by simp)))
        have HL2 := Lib.hid ((hb2.block wr.heap.size (by simp)).trans HLa.out)
        clear hb2 HCz HBa HLa y0
        obtain ⟨⟨y0, y1, y2, y3, y4⟩, y5, y6, y7, y8, y9⟩ := box11 HL2.out
        cases hq : fokB b
        · have HQ := Lib.hid hq
          clear hq
          go_wp2_with fail
          go_ret
          exact ⟨by unfold partsB; rw [all_false HX.out HQ.out]; simp, HB.out.trans (HB2.out.mono hbs)⟩
        · have HQ := Lib.hid hq
          clear hq
          have hsz := HB2.out.size
          have hkk : k + 1 - Z = k - Z + 1 := by omega
          have hLN : ((Fs.take (k - Z + 1)).map (·.ad)).length = n4 + 1 := by have := HNN.out.2; have := HE.out; simp at *; omega
          have hn38 : n4 < 32 := by have := HNN.out.2; have := HE.out; simp at *; omega
          have HMT := Lib.hid (map_take_more (·.ad) HX.out)
          go_wp2_with (at_builtin; refine AK.wpList_append_owned rfl _ _ rfl w.heap.size (.slice a4 n4 c4) rfl ((Fs.take (k - Z)).map (·.ad)) (HO4.out.below (HB2.out.trans ((below1 w2 _).mono hsz)) (Nat.le_refl _)) (some ⟨w2.heap.size, 0, none⟩) 1 1 rfl [b.ad] rfl (rowC_at (K := AK) w2 31 [b.ad] _ _ 1 rfl rfl rfl (by simp)) (by have := HNN.out.2; have := HE.out; simp at *; omega) (by simp; omega) ((Fs.take (k - Z + 1)).map (·.ad)) HMT.out ?_; intro a1 c1 w3 hO hG; rw [hLN] at hO ⊢; have HO4n := Lib.hid hO; have HG := Lib.hid hG; clear hO hG)
          have HB3 := Lib.hid (HB.out.trans ((HB2.out.trans ((below1 w2 (.cells #[.int .i8 b.ad.f, .int .u16 b.ad.g0, .int .u16 b.ad.g1, .int .u16 b.ad.g2, .int .u16 b.ad.g3, .int .u16 b.ad.g4, .int .u16 b.ad.g5, .int .u16 b.ad.g6, .int .u16 b.ad.g7, .int .i64 b.ad.p] 31)).mono hsz)).mono hbs))
          have HOo := Lib.hid (HO4.out.below (HB2.out.trans ((below1 w2 (.cells #[.int .i8 b.ad.f, .int .u16 b.ad.g0, .int .u16 b.ad.g1, .int .u16 b.ad.g2, .int .u16 b.ad.g3, .int .u16 b.ad.g4, .int .u16 b.ad.g5, .int .u16 b.ad.g6, .int .u16 b.ad.g7, .int .i64 b.ad.p] 31)).mono hsz)) (Nat.le_refl _))
          have HO3b := Lib.hid (HO3.out.below (HB2.out.trans ((below1 w2 (.cells #[.int .i8 b.ad.f, .int .u16 b.ad.g0, .int .u16 b.ad.g1, .int .u16 b.ad.g2, .int .u16 b.ad.g3, .int .u16 b.ad.g4, .int .u16 b.ad.g5, .int .u16 b.ad.g6, .int .u16 b.ad.g7, .int .i64 b.ad.p] 31)).mono hsz)) (Nat.le_refl _))
          have HT := Lib.hid (take_past (l := Zs) (k := k) (by have := HE.out; omega))
          go_roundw
          case rel => exact ⟨k + 1, n3, n4 + 1, a3, a1, c3, c1, rfl, rfl, by go_num, by omega, by omega, Lib.hid (by rw [hkk, HT.out]; have := HNN.out; have := HE.out; simp at *; omega), Lib.hid (by rw [HT.out]; exact own_beside HO3b.out HOo.out (by decide) HG.out), Lib.hid (by rw [hkk]; exact HO4n.out), Lib.hid (noneTo_past HN3.out (by have := HE.out; omega)), Lib.hid (by rw [hkk]; exact noneTo_step HN4.out HX.out (by rw [HQ.out]; rfl)), own_grown HOo.out HB3.out HG.out (by simp; omega)⟩
          case measure => simp [intOf]; omega
      · obtain rfl : k = M := by omega
        have HA3 := Lib.hid (show Zs.all zokB = true from all_true (noneTo_all HN3.out (by have := HE.out; omega)))
        have HA4 := Lib.hid (show Fs.all fokB = true from all_true (noneTo_all HN4.out (by have := HE.out; omega)))
        have HU3 := Lib.hid (unlike_texts (Zs.map (·.name)) n3 (by have := HNN.out.1; have := HE.out; simp at *; omega) a3 c3 wr (by have h := HO3.out.row; rwa [List.take_of_length_le (by have := HE.out; omega)] at h))
        have HU4 := Lib.hid (unlike_ads (Fs.map (·.ad)) n4 (by have := HNN.out.2; have := HE.out; simp at *; omega) a4 c4 wr (by have h := HO4.out.row; rwa [List.take_of_length_le (by have := HE.out; omega)] at h))
        go_wp2_with fail
        with_reducible refine HU3.out.mono ?_
        rintro e w2 ⟨rfl, rfl⟩
        by_cases hd : (Zs.map (·.name)).Nodup
        · rw [decide_eq_true hd]
          have HPb := Lib.hid (show partsB Zs Fs = decide ((Fs.map (·.ad)).Nodup) by unfold partsB; rw [HA3.out, HA4.out, decide_eq_true hd]; rfl)
          clear hd
          go_wp2_with fail
          with_reducible refine HU4.out.mono ?_
          rintro e w3 ⟨rfl, hb3⟩
          have HB3 := Lib.hid (HB.out.trans (hb3.mono hbs))
          clear hb3
          go_wp2_with fail
          go_ret
          exact ⟨by rw [HPb.out]; first | rfl | simp, HB3.out⟩
        · rw [decide_eq_false hd]
          have HPb := Lib.hid (show partsB Zs Fs = false by unfold partsB; rw [decide_eq_false hd]; simp)
          clear hd
          go_wp2_with fail
          go_ret
          exact ⟨by rw [HPb.out]; rfl, HB.out⟩
end Go.Proofs.Ytlceeeajhejedaa
