/- The landed package scar: what is chosen; the places of addresses. -/
import Derived.Test.YtipbkhbdnjhofaaKeyA
import Derived.Lib.LazyBuf
set_option linter.unusedSimpArgs false
set_option linter.unusedVariables false
namespace Go.Proofs.Ytipbkhbdnjhofaa
open R3 Go.RowKit Go.Maps Go.Proofs.Ytipbkhbdnjhofaa.Kind

theorem enter_fn {N : Nat} {fn : Func} {c : Code} (hf : Try.prog.funcs[N]? = some fn) (hname : (fn.name == "runtime.NumGoroutine") = false) (hb : fn.body = some c) (args : Array Value) (w : World) : (callFunc N args).run Try.prog w = .ok (.enter N args) w := by
  have h1 : fn.name ≠ "runtime.NumGoroutine" := by simpa using hname
  simp [callFunc, hf, h1, hb]
/-- Function number N, with what it has captured, tells p of places and elements, in whatever world that went on from w. -/
def TellsSK (w : World) (N : Nat) (caps : Array Value) (pr : Sc → Prop) (p : Nat → Sc → Bool) : Prop := ∀ (W : World) (n : Nat) (x : Sc), n ≤ 4000000 → pr x → Below w.heap.size w W →
  Calls Try.prog N (#[.int .i64 (n : Int), .agg #[.int .i8 x.ad.f, .int .u16 x.ad.g0, .int .u16 x.ad.g1, .int .u16 x.ad.g2, .int .u16 x.ad.g3, .int .u16 x.ad.g4, .int .u16 x.ad.g5, .int .u16 x.ad.g6, .int .u16 x.ad.g7, .int .i64 x.ad.p, .int .i64 x.at_]] ++ caps) W fun e W' => e = .returned (.bool (p n x)) ∧ Below W.heap.size W W'
set_option maxHeartbeats 8000000 in
set_option maxRecDepth 1000000 in
theorem chooseSK_any (N : Nat) (caps : Array Value) (pr : Sc → Prop) (p : Nat → Sc → Bool) (l L : List Sc) (hL : L = pick p l) (a : Option Addr) (c : Nat) (w : World) (hl : l.length ≤ 1000) (hpr : ∀ x ∈ l, pr x) (hE : ∀ (args : Array Value) (w : World), (callFunc N args).run Try.prog w = .ok (.enter N args) w) (hR : SK.RowC w a c l) (hT : TellsSK w N caps pr p) :
    Calls Try.prog 20 #[.slice a l.length c, .func (.func N) #[] caps] w fun e w' => ∃ a1 c1, e = .returned (.slice a1 L.length c1) ∧ SK.Own w' w.heap.size (.slice a1 L.length c1) L ∧ Below w.heap.size w w' := by
  have HR := Lib.hid hR
  have HT := Lib.hid hT
  have HE := Lib.hid hE
  have HL := Lib.hid hL
  have HP := Lib.hid hpr
  clear hR hT hE hL hpr
  go_enter Try.func20, Try.ntmps20
  go_wp2_with fail
  go_loopw [5, 10] (fun o i wr => ∃ (k m c1 : Nat) (a1 : Option Addr), o = .slice a1 m c1 ∧ i = .int .i64 k ∧ k ≤ l.length ∧ m ≤ k ∧ Hid (m = (pick p (l.take k)).length) ∧ Hid (SK.Own wr w.heap.size (.slice a1 m c1) (pick p (l.take k))) ∧ Hid (Below w.heap.size w wr)) (fun _ i _ => l.length - (intOf i).toNat)
  case atStart => exact ⟨0, 0, 0, none, rfl, rfl, by omega, by omega, Lib.hid rfl, Lib.hid (own_nil _ _), Lib.hid (Below.refl _ _)⟩
  case round =>
    obtain ⟨k, m, c1, a1, rfl, rfl, hk, hmk, hm, hO, hB⟩ := hrel
    have HM := Lib.hid hm.out
    clear hm
    have HO := Lib.hid hO.out
    have HB := Lib.hid hB.out
    have hsz := HB.out.size
    clear hO hB
    by_cases hlt : k < l.length
    · obtain ⟨b, o, rfl, hb, hat⟩ := HR.out.2.2.2 (by omega)
      obtain ⟨x, hx⟩ : ∃ x, l[k]? = some x := ⟨_, List.getElem?_eq_getElem hlt⟩
      obtain ⟨c0, c1, c2, c3, c4, c5, c6, c7, c8, c9, c10⟩ := SK.cells (hat.below HB.out hb) hx
      have hst := pick_step (p := p) hx
      have hle := pick_le p l k
      have HLe := Lib.hid (pick_le p l (k + 1))
      have hb1 := below1 wr (.cells #[.int .i8 x.ad.f, .int .u16 x.ad.g0, .int .u16 x.ad.g1, .int .u16 x.ad.g2, .int .u16 x.ad.g3, .int .u16 x.ad.g4, .int .u16 x.ad.g5, .int .u16 x.ad.g6, .int .u16 x.ad.g7, .int .i64 x.ad.p, .int .i64 x.at_] 33)
      have HC := Lib.hid (HT.out _ k x (by omega) (HP.out x (List.mem_of_getElem? hx)) (HB.out.trans (hb1.mono hsz)))
      have HB1 := Lib.hid (HB.out.trans (hb1.mono hsz))
      have HO1 := Lib.hid (HO.out.below hb1 (Nat.le_refl _))
      have HG1 := Lib.hid (laid1 wr (.cells #[.int .i8 x.ad.f, .int .u16 x.ad.g0, .int .u16 x.ad.g1, .int .u16 x.ad.g2, .int .u16 x.ad.g3, .int .u16 x.ad.g4, .int .u16 x.ad.g5, .int .u16 x.ad.g6, .int .u16 x.ad.g7, .int .i64 x.ad.p, .int .i64 x.at_] 33))
      have hs1 : (wr.alloc (.cells #[.int .i8 x.ad.f, .int .u16 x.ad.g0, .int .u16 x.ad.g1, .int .u16 x.ad.g2, .int .u16 x.ad.g3, .int .u16 x.ad.g4, .int .u16 x.ad.g5, .int .u16 x.ad.g6, .int .u16 x.ad.g7, .int .i64 x.ad.p, .int .i64 x.at_] 33)).heap.size = wr.heap.size + 1 := by simp
      clear hat hx hb1
      go_wp2_with fail
      rw [HE.out, Oper.upon_enter]
      with_reducible refine HC.out.mono ?_
      rintro e w1 ⟨rfl, hb1⟩
      have HB2 := Lib.hid (HB1.out.trans (hb1.mono HB1.out.size))
      have HO2 := Lib.hid (HO1.out.below hb1 (Nat.le_refl _))
      obtain ⟨⟨d0, d1, d2, d3, d4, d5, d6, d7, d8, d9, d10⟩, _⟩ := boxes11 ((hb1.block wr.heap.size (by omega)).trans HG1.out)
      have hsz1 := HB2.out.size
      clear hb1 HC c0 c1 c2 c3 c4 c5 c6 c7 c8 c9 c10 HO1 HG1 hs1 HB1
      cases hf : p k x with
      | false =>
        rw [hf] at hst
        have HS := Lib.hid hst
        clear hst hf
        go_wp2_with fail
        go_roundw
        case rel => exact ⟨k + 1, m, c1, a1, rfl, by go_num, by omega, by omega, Lib.hid (by rw [HS.out]; simpa using HM.out), Lib.hid (by rw [HS.out]; simpa using HO2.out), Lib.hid HB2.out⟩
        case measure => simp [intOf]; omega
      | true =>
        rw [hf] at hst
        simp only [if_true] at hst
        have HS := Lib.hid hst
        clear hst hf
        go_wp2_with (at_builtin; refine SK.wpList_append_owned rfl _ _ rfl w.heap.size (.slice a1 m c1) rfl (pick p (l.take k)) (HO2.out.below (below1 w1 _) (Nat.le_refl _)) (some ⟨w1.heap.size, 0, none⟩) 1 1 rfl [x] rfl (rowC_at (K := SK) w1 33 [x] _ _ 1 rfl rfl rfl (by simp)) (by simp; omega) (by simp; omega) (pick p (l.take (k + 1))) HS.out ?_; intro a2 c2' w2 hO2 hG2; have HO3 := Lib.hid hO2; have HB3 := Lib.hid ((HB2.out.trans ((below1 w1 (.cells #[.int .i8 x.ad.f, .int .u16 x.ad.g0, .int .u16 x.ad.g1, .int .u16 x.ad.g2, .int .u16 x.ad.g3, .int .u16 x.ad.g4, .int .u16 x.ad.g5, .int .u16 x.ad.g6, .int .u16 x.ad.g7, .int .i64 x.ad.p, .int .i64 x.at_] 33)).mono hsz1)).grown hG2 (by simp; omega) (fun j hj => (HO2.out.lt j hj).1)); clear hO2 hG2)
        exact ⟨⟨k + 1, _, c2', a2, rfl, by go_num, by omega, HLe.out, Lib.hid rfl, HO3, HB3⟩, by simp [intOf]; omega⟩
    · obtain rfl : k = l.length := by omega
      go_wp2_with fail
      go_ret
      have hm := HM.out
      have hO := HO.out
      rw [List.take_length, ← HL.out] at hm hO
      exact ⟨a1, c1, by rw [← hm]; rfl, by rw [← hm]; exact hO, HB.out⟩
/-- Function number N, with what it has captured, tells p of places and elements, in whatever world that went on from w. -/
def TellsAK (w : World) (N : Nat) (caps : Array Value) (pr : Ad → Prop) (p : Nat → Ad → Bool) : Prop := ∀ (W : World) (n : Nat) (x : Ad), n ≤ 4000000 → pr x → Below w.heap.size w W →
  Calls Try.prog N (#[.int .i64 (n : Int), .agg #[.int .i8 x.f, .int .u16 x.g0, .int .u16 x.g1, .int .u16 x.g2, .int .u16 x.g3, .int .u16 x.g4, .int .u16 x.g5, .int .u16 x.g6, .int .u16 x.g7, .int .i64 x.p]] ++ caps) W fun e W' => e = .returned (.bool (p n x)) ∧ Below W.heap.size W W'
set_option maxHeartbeats 8000000 in
set_option maxRecDepth 1000000 in
theorem chooseAK_any (N : Nat) (caps : Array Value) (pr : Ad → Prop) (p : Nat → Ad → Bool) (l L : List Ad) (hL : L = pick p l) (a : Option Addr) (c : Nat) (w : World) (hl : l.length ≤ 1000) (hpr : ∀ x ∈ l, pr x) (hE : ∀ (args : Array Value) (w : World), (callFunc N args).run Try.prog w = .ok (.enter N args) w) (hR : AK.RowC w a c l) (hT : TellsAK w N caps pr p) :
    Calls Try.prog 24 #[.slice a l.length c, .func (.func N) #[] caps] w fun e w' => ∃ a1 c1, e = .returned (.slice a1 L.length c1) ∧ AK.Own w' w.heap.size (.slice a1 L.length c1) L ∧ Below w.heap.size w w' := by
  have HR := Lib.hid hR
  have HT := Lib.hid hT
  have HE := Lib.hid hE
  have HL := Lib.hid hL
  have HP := Lib.hid hpr
  clear hR hT hE hL hpr
  go_enter Try.func24, Try.ntmps24
  go_wp2_with fail
  go_loopw [5, 10] (fun o i wr => ∃ (k m c1 : Nat) (a1 : Option Addr), o = .slice a1 m c1 ∧ i = .int .i64 k ∧ k ≤ l.length ∧ m ≤ k ∧ Hid (m = (pick p (l.take k)).length) ∧ Hid (AK.Own wr w.heap.size (.slice a1 m c1) (pick p (l.take k))) ∧ Hid (Below w.heap.size w wr)) (fun _ i _ => l.length - (intOf i).toNat)
  case atStart => exact ⟨0, 0, 0, none, rfl, rfl, by omega, by omega, Lib.hid rfl, Lib.hid (own_nil _ _), Lib.hid (Below.refl _ _)⟩
  case round =>
    obtain ⟨k, m, c1, a1, rfl, rfl, hk, hmk, hm, hO, hB⟩ := hrel
    have HM := Lib.hid hm.out
    clear hm
    have HO := Lib.hid hO.out
    have HB := Lib.hid hB.out
    have hsz := HB.out.size
    clear hO hB
    by_cases hlt : k < l.length
    · obtain ⟨b, o, rfl, hb, hat⟩ := HR.out.2.2.2 (by omega)
      obtain ⟨x, hx⟩ : ∃ x, l[k]? = some x := ⟨_, List.getElem?_eq_getElem hlt⟩
      obtain ⟨⟨c0, c1, c2, c3, c4⟩, c5, c6, c7, c8, c9⟩ := AK.ten (hat.below HB.out hb) hx
      have hst := pick_step (p := p) hx
      have hle := pick_le p l k
      have HLe := Lib.hid (pick_le p l (k + 1))
      have hb1 := below1 wr (.cells #[.int .i8 x.f, .int .u16 x.g0, .int .u16 x.g1, .int .u16 x.g2, .int .u16 x.g3, .int .u16 x.g4, .int .u16 x.g5, .int .u16 x.g6, .int .u16 x.g7, .int .i64 x.p] 31)
      have HC := Lib.hid (HT.out _ k x (by omega) (HP.out x (List.mem_of_getElem? hx)) (HB.out.trans (hb1.mono hsz)))
      have HB1 := Lib.hid (HB.out.trans (hb1.mono hsz))
      have HO1 := Lib.hid (HO.out.below hb1 (Nat.le_refl _))
      have HG1 := Lib.hid (laid1 wr (.cells #[.int .i8 x.f, .int .u16 x.g0, .int .u16 x.g1, .int .u16 x.g2, .int .u16 x.g3, .int .u16 x.g4, .int .u16 x.g5, .int .u16 x.g6, .int .u16 x.g7, .int .i64 x.p] 31))
      have hs1 : (wr.alloc (.cells #[.int .i8 x.f, .int .u16 x.g0, .int .u16 x.g1, .int .u16 x.g2, .int .u16 x.g3, .int .u16 x.g4, .int .u16 x.g5, .int .u16 x.g6, .int .u16 x.g7, .int .i64 x.p] 31)).heap.size = wr.heap.size + 1 := by simp
      clear hat hx hb1
      go_wp2_with fail
      rw [HE.out, Oper.upon_enter]
      with_reducible refine HC.out.mono ?_
      rintro e w1 ⟨rfl, hb1⟩
      have HB2 := Lib.hid (HB1.out.trans (hb1.mono HB1.out.size))
      have HO2 := Lib.hid (HO1.out.below hb1 (Nat.le_refl _))
      obtain ⟨⟨d0, d1, d2, d3, d4, d5, d6, d7, d8, d9⟩, _⟩ := boxes10 ((hb1.block wr.heap.size (by omega)).trans HG1.out)
      have hsz1 := HB2.out.size
      clear hb1 HC c0 c1 c2 c3 c4 c5 c6 c7 c8 c9 HO1 HG1 hs1 HB1
      cases hf : p k x with
      | false =>
        rw [hf] at hst
        have HS := Lib.hid hst
        clear hst hf
        go_wp2_with fail
        go_roundw
        case rel => exact ⟨k + 1, m, c1, a1, rfl, by go_num, by omega, by omega, Lib.hid (by rw [HS.out]; simpa using HM.out), Lib.hid (by rw [HS.out]; simpa using HO2.out), Lib.hid HB2.out⟩
        case measure => simp [intOf]; omega
      | true =>
        rw [hf] at hst
        simp only [if_true] at hst
        have HS := Lib.hid hst
        clear hst hf
        go_wp2_with (at_builtin; refine AK.wpList_append_owned rfl _ _ rfl w.heap.size (.slice a1 m c1) rfl (pick p (l.take k)) (HO2.out.below (below1 w1 _) (Nat.le_refl _)) (some ⟨w1.heap.size, 0, none⟩) 1 1 rfl [x] rfl (rowC_at (K := AK) w1 31 [x] _ _ 1 rfl rfl rfl (by simp)) (by simp; omega) (by simp; omega) (pick p (l.take (k + 1))) HS.out ?_; intro a2 c2' w2 hO2 hG2; have HO3 := Lib.hid hO2; have HB3 := Lib.hid ((HB2.out.trans ((below1 w1 (.cells #[.int .i8 x.f, .int .u16 x.g0, .int .u16 x.g1, .int .u16 x.g2, .int .u16 x.g3, .int .u16 x.g4, .int .u16 x.g5, .int .u16 x.g6, .int .u16 x.g7, .int .i64 x.p] 31)).mono hsz1)).grown hG2 (by simp; omega) (fun j hj => (HO2.out.lt j hj).1)); clear hO2 hG2)
        exact ⟨⟨k + 1, _, c2', a2, rfl, by go_num, by omega, HLe.out, Lib.hid rfl, HO3, HB3⟩, by simp [intOf]; omega⟩
    · obtain rfl : k = l.length := by omega
      go_wp2_with fail
      go_ret
      have hm := HM.out
      have hO := HO.out
      rw [List.take_length, ← HL.out] at hm hO
      exact ⟨a1, c1, by rw [← hm]; rfl, by rw [← hm]; exact hO, HB.out⟩
set_option maxHeartbeats 8000000 in
set_option maxRecDepth 1000000 in
theorem places_any (ds : List Ad) (a : Option Addr) (c : Nat) (w : World) (hl : ds.length ≤ 1000) (hd : OkL ds) (hR : AK.RowC w a c ds) :
    Calls Try.prog 19 #[.slice a ds.length c] w fun e w' => ∃ D n, e = .returned (.map (some w.heap.size)) ∧ OwnI w' w.heap.size n D ∧ PlaceTo ds D ds.length ∧ Below w.heap.size w w' := by
  have HR := Lib.hid hR
  have HOk := Lib.hid hd
  have HLw := Lib.hid law_ad
  have hmm := fun (n : Int) (w : World) => run_make_hint 46 31 3 .i64 n Try.underlying46 w
  have HO0 := Lib.hid (World.ownsMap_made w Try.prog 31 rawI)
  clear hR hd
  go_enter Try.func19, Try.ntmps19
  go_wp2_with fail
  go_loopw [11] (fun i wr => ∃ (k n : Nat) (D : DataW Unit), i = .int .i64 k ∧ k ≤ ds.length ∧ Hid (n ≤ k) ∧ Hid (wr.ownsMap Try.prog 31 rawI w.heap.size n D) ∧ Hid (PlaceTo ds D k) ∧ Hid (Below w.heap.size w wr)) (fun i _ => ds.length - (intOf i).toNat)
  case atStart => exact ⟨0, 0, _, rfl, by omega, Lib.hid (Nat.le_refl _), HO0, Lib.hid (placeTo_zero ds), Lib.hid (below1 _ _)⟩
  case round =>
    obtain ⟨k, n, D, rfl, hk, hn, ho, hh, hb0⟩ := hrel
    have HN := Lib.hid hn.out
    have HO := Lib.hid ho.out
    have HH := Lib.hid hh.out
    have HB := Lib.hid hb0.out
    have hsz := HB.out.size
    clear ho hh hb0 hn
    by_cases hlt : k < ds.length
    · obtain ⟨b, o, rfl, hb, hat⟩ := HR.out.2.2.2 (by omega)
      obtain ⟨x, hx⟩ : ∃ x, ds[k]? = some x := ⟨_, List.getElem?_eq_getElem hlt⟩
      obtain ⟨⟨y0, y1, y2, y3, y4⟩, y5, y6, y7, y8, y9⟩ := AK.ten (hat.below HB.out hb) hx
      have HX := Lib.hid hx
      have HOa := Lib.hid (HOk.out x (List.mem_of_getElem? hx))
      have HK := Lib.hid (key_ad HOa.out)
      have HIs := Lib.hid ((HO.out.tidy HLw.out).isMap)
      have HBb := Lib.hid (HB.out.trans ((below1 wr (.cells #[.int .i8 x.f, .int .u16 x.g0, .int .u16 x.g1, .int .u16 x.g2, .int .u16 x.g3, .int .u16 x.g4, .int .u16 x.g5, .int .u16 x.g6, .int .u16 x.g7, .int .i64 x.p] 31)).mono hsz))
      clear hat hx
      go_wp2_with (first | (at_mapUpdate; refine wpList_mapUpdate_own _ rfl _ _ _ 46 rfl 31 3 HLw.out Try.underlying46 rawI w.heap.size n D rfl (HO.out.alloc _) (by have := HN.out; unfold maxLen; omega) _ _ _ rfl rfl HK.out _ [] rfl ?_; intro w2 hown2 hgr2; have HO2 := Lib.hid hown2; have HB2 := Lib.hid (HBb.out.grown hgr2 HBb.out.size (fun j hj => by cases hj; exact Nat.le_refl _)); clear hown2 hgr2) | go_in)
      go_roundw
      case rel => exact ⟨k + 1, n + 1, _, by go_num, by omega, Lib.hid (by have := HN.out; omega), HO2, Lib.hid (placeTo_step HH.out HIs.out HX.out HOa.out), Lib.hid HB2.out⟩
      case measure => simp [intOf]; omega
    · obtain rfl : k = ds.length := by omega
      go_wp2_with fail
      go_ret
      exact ⟨D, n, rfl, HO.out, HH.out, HB.out⟩
end Go.Proofs.Ytipbkhbdnjhofaa
