/- Which zones, which rows of fates may be. -/
import Derived.Test.YtciohjgcndgiaaaCallee
import Derived.Test.YtciohjgcndgiaaaLabFold
set_option linter.unusedSimpArgs false
set_option linter.unusedVariables false
namespace Go.Proofs.Ytciohjgcndgiaaa
open Go.RowKit Go.Proofs.Ytciohjgcndgiaaa.Kind

def nameB (s : ByteArray) : Bool := P.name s.data.toList
def foldT (s : ByteArray) : ByteArray := ⟨(P.foldB s.data.toList).toArray⟩
def ansB (l : List Ad) : Bool := decide (l.length ≤ 16) && l.all mayP && decide l.Nodup
def zokB (z : Zo) : Bool := nameB z.name && decide (foldT z.name = z.name) && decide (1 ≤ z.ans.length ∧ z.ans.length ≤ 32) && z.ans.all ansB
def fokB (f : Fo) : Bool := mayP f.ad && decide (1 ≤ f.l.length ∧ f.l.length ≤ 32) && f.l.all (fun x => decide (x = 0 ∨ x = 1 ∨ x = 2))

theorem cell_eleven {w : World} {g : Nat} {x0 x1 x2 x3 x4 x5 x6 x7 x8 x9 x : Value} {t : TypeId} (h : w.heap[g]? = some (.cells #[x0, x1, x2, x3, x4, x5, x6, x7, x8, x9, x] t (0, 0))) : w.cell? ⟨g, 10, none⟩ = some x := by
  simp [World.cell?, h]

theorem fold_of (s : ByteArray) (w : World) (hs : s.size ≤ 140737488355328) :
    Calls Try.prog 80 #[.string s] w fun e w' => e = .returned (.tuple #[.string (if nameB s then foldT s else ⟨#[]⟩), .int .i64 (if nameB s then 0 else 10)]) ∧ Below w.heap.size w w' := by
  cases h : nameB s
  · exact (Lab.fold_no s w hs h).mono fun e w' ⟨he, hb⟩ => ⟨by rw [he]; rfl, hb⟩
  · exact (Lab.fold_yes s w hs h).mono fun e w' ⟨he, hb⟩ => ⟨by rw [he]; rfl, hb⟩

set_option maxHeartbeats 8000000 in
set_option maxRecDepth 1000000 in
theorem zone_may (z : Zv) (b : Zo) (w : World) (hZ : ZoP w z b) (hs : b.name.size ≤ 140737488355328) :
    Calls Try.prog 71 #[.agg #[.string z.name, .slice z.h.a z.h.n z.h.c]] w fun e w' => e = .returned (.bool (zokB b)) ∧ Below w.heap.size w w' := by
  obtain ⟨hnm, hal, hs2, hN⟩ := hZ
  obtain ⟨nm, ⟨za, zn, zc⟩⟩ := z
  dsimp only at hnm hal hN ⊢
  subst hnm hal
  obtain ⟨o1, ho1⟩ : ∃ o1 : Obj, o1 = .cells #[.string b.name, .slice za b.ans.length zc] 70 := ⟨_, rfl⟩
  have HB := Lib.hid (below1 w o1)
  have HL := Lib.hid (laid1 w o1)
  have HN := Lib.hid (hN.below ansP_steady (below1 w o1))
  have hlen : (b.ans.length : Int) ≤ 9223372036854775807 := len_intC _ (by have h1 := hN.1; have h2 := hN.2.1.1; have h3 := hN.2.1.2.1; omega)
  rw [ho1] at HB HL HN
  clear ho1 hN
  obtain ⟨W1, hW1⟩ : ∃ W1, W1 = w.alloc (.cells #[.string b.name, .slice za b.ans.length zc] 70) := ⟨_, rfl⟩
  have hNs : W1.heap.size = w.heap.size + 1 := by rw [hW1]; simp
  rw [← hW1] at HB HL HN
  go_enter Try.func71, Try.ntmps71
  go_upto_region 1 with fail
  rw [← hW1]
  clear hW1
  have hx := cells2 HL.out
  obtain ⟨x0, x1⟩ := hx
  have HFo := Lib.hid (fold_of b.name W1 hs)
  go_wp2_with fail
  with_reducible refine HFo.out.mono ?_
  rintro e w2 ⟨rfl, hb2⟩
  have hlt : w.heap.size < W1.heap.size := by omega
  have HL2 := Lib.hid ((hb2.block w.heap.size hlt).trans HL.out)
  have HB2 := Lib.hid hb2
  clear x0 x1 hb2 HFo
  obtain ⟨x0, x1⟩ := cells2 HL2.out
  cases hn : nameB b.name
  · have HR := Lib.hid (show zokB b = false by unfold zokB; rw [hn]; rfl)
    simp only [Bool.false_eq_true, if_false]
    go_wp2_with fail
    go_ret
    exact ⟨by rw [HR.out]; rfl, HB.out.trans (HB2.out.mono (by omega))⟩
  · simp only [if_true]
    by_cases hf : foldT b.name = b.name
    · have HR := Lib.hid (show zokB b = (decide (1 ≤ b.ans.length ∧ b.ans.length ≤ 32) && b.ans.all ansB) by unfold zokB; rw [hn, decide_eq_true hf]; rfl)
      have hfe : ((foldT b.name).toList == b.name.toList) = true := by rw [text_eq]; exact decide_eq_true hf
      generalize foldT b.name = F at *
      have HCt := Lib.hid (count_ads b.ans.length za zc w2 hlen)
      clear hf hn
      go_wp2_with fail
      with_reducible refine HCt.out.mono ?_
      rintro e w3 ⟨rfl, rfl⟩
      by_cases hc : 1 ≤ b.ans.length ∧ b.ans.length ≤ 32
      · rw [decide_eq_true hc]
        have HR2 := Lib.hid (show zokB b = b.ans.all ansB by rw [HR.out, decide_eq_true hc]; rfl)
        clear hc
        go_wp2_with fail
        go_loopw [30] (fun i wr => ∃ k : Nat, i = .int .i64 k ∧ k ≤ b.ans.length ∧ Hid (NoneTo (fun l => !ansB l) b.ans k) ∧ Below W1.heap.size W1 wr) (fun i _ => b.ans.length - (intOf i).toNat)
        case atStart => exact ⟨0, rfl, by omega, Lib.hid (noneTo_zero _ _), HB2.out⟩
        case round =>
          obtain ⟨k, rfl, hk, hno, hb⟩ := hrel
          have HNo := Lib.hid hno.out
          have HBr := Lib.hid hb
          have hbs := hb.size
          clear hno hb
          by_cases hki : k < b.ans.length
          · obtain ⟨l, hl⟩ : ∃ l, b.ans[k]? = some l := ⟨_, List.getElem?_eq_getElem hki⟩
            obtain ⟨y, g, o, hy, rfl, hg, hat, hPy⟩ := (HN.out.below ansP_steady HBr.out).get hl
            have y0 := HK.one hat hy
            obtain ⟨ha, hrow⟩ := hPy
            rw [ha] at y0
            have hll : (l.length : Int) ≤ 9223372036854775807 := len_intC _ (Nat.le_trans hrow.1 hrow.2.1)
            have HRw := Lib.hid hrow
            have HX := Lib.hid hl
            clear hat hy ha hrow hl
            have HC1 := Lib.hid (may_any l l.length rfl y.a y.c wr HRw.out)
            by_cases h16 : l.length ≤ 16
            · have h16i : (l.length : Int) ≤ 16 := by omega
              go_wp2_with fail
              with_reducible refine HC1.out.mono ?_
              rintro e w4 ⟨rfl, hb4⟩
              have HB4 := Lib.hid (HBr.out.trans (hb4.mono hbs))
              have hb4s := hb4.size
              have HC2 := Lib.hid (unlike_ads l l.length rfl y.a y.c w4 (HRw.out.below hb4))
              clear hb4 HC1
              cases hm : l.all mayP
              · have HAb := Lib.hid (show ansB l = false by unfold ansB; rw [hm]; simp)
                clear HC2 hm
                go_wp2_with fail
                go_ret
                exact ⟨by rw [HR2.out, all_falseC HX.out HAb.out]; rfl, HB.out.trans (HB4.out.mono (by omega))⟩
              · have HM := Lib.hid hm
                clear hm
                go_wp2_with fail
                with_reducible refine HC2.out.mono ?_
                rintro e w5 ⟨rfl, hb5⟩
                have HB5 := Lib.hid (HB4.out.trans (hb5.mono (by omega)))
                clear hb5 HC2
                by_cases hd : l.Nodup
                · rw [decide_eq_true hd]
                  have HAb := Lib.hid (show ansB l = true by unfold ansB; rw [HM.out, decide_eq_true hd, decide_eq_true h16]; rfl)
                  clear hd
                  go_wp2_with fail
                  go_roundw
                  case rel => exact ⟨k + 1, by go_num, by omega, Lib.hid (noneTo_step HNo.out HX.out (by rw [HAb.out]; rfl)), HB5.out⟩
                  case measure => simp [intOf]; omega
                · rw [decide_eq_false hd]
                  have HAb := Lib.hid (show ansB l = false by unfold ansB; rw [decide_eq_false hd]; simp)
                  clear hd
                  go_wp2_with fail
                  go_ret
                  exact ⟨by rw [HR2.out, all_falseC HX.out HAb.out]; rfl, HB.out.trans (HB5.out.mono (by omega))⟩
            · have h16i : ¬ (l.length : Int) ≤ 16 := by omega
              have HAb := Lib.hid (show ansB l = false by unfold ansB; rw [decide_eq_false h16]; simp)
              clear HC1
              go_wp2_with fail
              go_ret
              exact ⟨by rw [HR2.out, all_falseC HX.out HAb.out]; rfl, HB.out.trans (HBr.out.mono (by omega))⟩
          · obtain rfl : k = b.ans.length := by omega
            go_wp2_with fail
            go_ret
            exact ⟨by rw [HR2.out, all_trueC HNo.out]; rfl, HB.out.trans (HBr.out.mono (by omega))⟩
      · rw [decide_eq_false hc]
        have HR2 := Lib.hid (show zokB b = false by rw [HR.out, decide_eq_false hc]; rfl)
        clear hc
        go_wp2_with fail
        go_ret
        exact ⟨by rw [HR2.out]; rfl, HB.out.trans (HB2.out.mono (by omega))⟩
    · have HR := Lib.hid (show zokB b = false by unfold zokB; rw [hn, decide_eq_false hf]; rfl)
      have hfe : ((foldT b.name).toList == b.name.toList) = false := by rw [text_eq]; exact decide_eq_false hf
      generalize foldT b.name = F at *
      clear hf hn
      go_wp2_with fail
      go_ret
      exact ⟨by rw [HR.out]; rfl, HB.out.trans (HB2.out.mono (by omega))⟩

set_option maxHeartbeats 8000000 in
set_option maxRecDepth 1000000 in
theorem row_may (f : Fv) (b : Fo) (w : World) (hF : FoP w f b) :
    Calls Try.prog 72 #[.agg #[.int .i8 f.ad.f, .int .u16 f.ad.g0, .int .u16 f.ad.g1, .int .u16 f.ad.g2, .int .u16 f.ad.g3, .int .u16 f.ad.g4, .int .u16 f.ad.g5, .int .u16 f.ad.g6, .int .u16 f.ad.g7, .int .i64 f.ad.p, .slice f.h.a f.h.n f.h.c]] w fun e w' => e = .returned (.bool (fokB b)) ∧ Below w.heap.size w w' := by
  obtain ⟨had, hal, hR⟩ := hF
  obtain ⟨ad, ⟨fa, fn, fc⟩⟩ := f
  dsimp only at had hal hR ⊢
  subst had hal
  obtain ⟨o1, ho1⟩ : ∃ o1 : Obj, o1 = .cells #[.int .i8 b.ad.f, .int .u16 b.ad.g0, .int .u16 b.ad.g1, .int .u16 b.ad.g2, .int .u16 b.ad.g3, .int .u16 b.ad.g4, .int .u16 b.ad.g5, .int .u16 b.ad.g6, .int .u16 b.ad.g7, .int .i64 b.ad.p, .slice fa b.l.length fc] 74 := ⟨_, rfl⟩
  obtain ⟨o2, ho2⟩ : ∃ o2 : Obj, o2 = .cells #[.int .i8 b.ad.f, .int .u16 b.ad.g0, .int .u16 b.ad.g1, .int .u16 b.ad.g2, .int .u16 b.ad.g3, .int .u16 b.ad.g4, .int .u16 b.ad.g5, .int .u16 b.ad.g6, .int .u16 b.ad.g7, .int .i64 b.ad.p] 43 := ⟨_, rfl⟩
  have HB := Lib.hid (below2 w o1 o2)
  have HL := Lib.hid (laid2 w o1 o2).1
  have HRw := Lib.hid (hR.below (below2 w o1 o2))
  have HMa := Lib.hid (may_any [b.ad] 1 rfl (some ⟨w.heap.size + 1, 0, none⟩) 1 ((w.alloc o1).alloc o2) (by rw [ho2]; exact rowC_at (K := AK) _ 43 [b.ad] _ _ 1 (by simp) rfl rfl (by simp)))
  have hlen : (b.l.length : Int) ≤ 9223372036854775807 := len_intC _ (Nat.le_trans hR.1 hR.2.1)
  rw [ho1, ho2] at HB HL HRw HMa
  clear ho1 ho2 hR
  simp only [List.all_cons, List.all_nil, Bool.and_true] at HMa
  go_enter Try.func72, Try.ntmps72
  go_wp2_with fail
  with_reducible refine HMa.out.mono ?_
  rintro e w2 ⟨rfl, hb2⟩
  have HB2 := Lib.hid (HB.out.trans (hb2.mono (by simp; omega)))
  have HL2 := Lib.hid ((hb2.block w.heap.size (by simp; omega)).trans HL.out)
  have HR3 := Lib.hid (HRw.out.below hb2)
  clear hb2 HMa HL HRw HB
  have x10 := cell_eleven HL2.out
  cases hm : mayP b.ad
  · have HF := Lib.hid (show fokB b = false by unfold fokB; rw [hm]; rfl)
    clear hm
    go_wp2_with fail
    go_ret
    exact ⟨by rw [HF.out]; rfl, HB2.out⟩
  · have HF := Lib.hid (show fokB b = (decide (1 ≤ b.l.length ∧ b.l.length ≤ 32) && b.l.all (fun x => decide (x = 0 ∨ x = 1 ∨ x = 2))) by unfold fokB; rw [hm]; rfl)
    have HCt := Lib.hid (count_fates b.l.length fa fc w2 hlen)
    clear hm
    go_wp2_with fail
    with_reducible refine HCt.out.mono ?_
    rintro e w3 ⟨rfl, rfl⟩
    by_cases hc : 1 ≤ b.l.length ∧ b.l.length ≤ 32
    · rw [decide_eq_true hc]
      have HF2 := Lib.hid (show fokB b = b.l.all (fun x => decide (x = 0 ∨ x = 1 ∨ x = 2)) by rw [HF.out, decide_eq_true hc]; rfl)
      clear hc
      go_wp2_with fail
      go_loopw [19] (fun i wr => ∃ k : Nat, i = .int .i64 k ∧ k ≤ b.l.length ∧ Hid (NoneTo (fun x : Int => !decide (x = 0 ∨ x = 1 ∨ x = 2)) b.l k) ∧ w2 = wr) (fun i _ => b.l.length - (intOf i).toNat)
      case atStart => exact ⟨0, rfl, by omega, Lib.hid (noneTo_zero _ _), by first | rfl | trivial⟩
      case round =>
        obtain ⟨k, rfl, hk, hno, rfl⟩ := hrel
        have HNo := Lib.hid hno.out
        clear hno
        by_cases hki : k < b.l.length
        · obtain ⟨y, hy⟩ : ∃ y, b.l[k]? = some y := ⟨_, List.getElem?_eq_getElem hki⟩
          obtain ⟨bb, o, rfl, hbl, hat⟩ := HR3.out.2.2.2 (by omega)
          have y0 := JK.one hat hy
          have HX := Lib.hid hy
          have HCf := Lib.hid (fate_may y w2)
          clear hy hat
          go_wp2_with fail
          with_reducible refine HCf.out.mono ?_
          rintro e w4 ⟨rfl, rfl⟩
          by_cases hq : y = 0 ∨ y = 1 ∨ y = 2
          · rw [decide_eq_true hq]
            have HQ := Lib.hid (decide_eq_true hq)
            clear hq
            go_wp2_with fail
            go_roundw
            case rel => exact ⟨k + 1, by go_num, by omega, Lib.hid (noneTo_step HNo.out HX.out (by rw [HQ.out]; rfl)), by first | rfl | trivial⟩
            case measure => simp [intOf]; omega
          · rw [decide_eq_false hq]
            have HQ := Lib.hid (decide_eq_false hq)
            clear hq
            go_wp2_with fail
            go_ret
            exact ⟨by rw [HF2.out, all_falseC HX.out HQ.out]; rfl, HB2.out⟩
        · obtain rfl : k = b.l.length := by omega
          go_wp2_with fail
          go_ret
          exact ⟨by rw [HF2.out, all_trueC HNo.out]; rfl, HB2.out⟩
    · rw [decide_eq_false hc]
      have HF2 := Lib.hid (show fokB b = false by rw [HF.out, decide_eq_false hc]; rfl)
      clear hc
      go_wp2_with fail
      go_ret
      exact ⟨by rw [HF2.out]; rfl, HB2.out⟩
end Go.Proofs.Ytciohjgcndgiaaa

set_option linter.unusedSimpArgs false
set_option linter.unusedVariables false
namespace Go.Proofs.Ytciohjgcndgiaaa
open Go.RowKit Go.Proofs.Ytciohjgcndgiaaa.Kind

theorem assert_zone (v : Value) (W : World) : (Instr.typeAssert (.iface 70 v) 137 70 true).run Try.prog W = .ok (.tuple #[v, .bool true]) W := by kernel_rfl
theorem assert_not (v : Value) (W : World) : (Instr.typeAssert (.iface 74 v) 137 70 true).run Try.prog W = .ok (.tuple #[.agg #[.string { data := #[] }, .slice none 0 0], .bool false]) W := by kernel_rfl
theorem assert_row (v : Value) (W : World) : (Instr.typeAssert (.iface 74 v) 137 74 true).run Try.prog W = .ok (.tuple #[v, .bool true]) W := by kernel_rfl

theorem own_beside {α β : Type} {Pr : Program} {K : Kind Pr α} {K2 : Kind Pr β} {w w' : World} {base base2 : Nat} {v v2 : Value} {l : List α} {l2 : List β} (h : K.Own w base v l) (h2 : K2.Own w base2 v2 l2) (ht : K2.T ≠ K.T) (hg : w.grownBy w' v2.ownBlock) : K.Own w' base v l := by
  refine World.ownsRow.kept h hg ?_
  cases e2 : v2.ownBlock with
  | none =>
    cases e1 : v.ownBlock with
    | none => exact .inl rfl
    | some g => exact .inr (by simp)
  | some g =>
    rcases h2.2 with ⟨rfl, _⟩ | ⟨g', cap, cur, rfl, _, hg', _⟩
    · simp [Value.ownBlock] at e2
    · have e3 : g' = g := by simpa [Value.ownBlock] using e2
      subst e3
      exact .inr (h.ne hg' ht)
theorem own_grown {α : Type} {Pr : Program} {K : Kind Pr α} {W0 w w' : World} {base : Nat} {v : Value} {l : List α} (h : K.Own w base v l) (hb : Below base W0 w) (hg : w.grownBy w' v.ownBlock) (hs : base ≤ w.heap.size) : Below base W0 w' :=
  hb.grown hg hs (fun g hg => (World.ownsRow.lt h g hg).1)
theorem map_take_more {α β : Type} (f : α → β) {l : List α} {k : Nat} {x : α} (hx : l[k]? = some x) : (l.take (k + 1)).map f = (l.take k).map f ++ [f x] := by rw [take_nextC hx]; simp
theorem box11C {w : World} {g : Nat} {x0 x1 x2 x3 x4 x5 x6 x7 x8 x9 x : Value} {t : TypeId} (h : w.heap[g]? = some (.cells #[x0, x1, x2, x3, x4, x5, x6, x7, x8, x9, x] t (0, 0))) :
    (w.cell? ⟨g, 0, none⟩ = some x0 ∧ w.cell? ⟨g, 1, none⟩ = some x1 ∧ w.cell? ⟨g, 2, none⟩ = some x2 ∧ w.cell? ⟨g, 3, none⟩ = some x3 ∧ w.cell? ⟨g, 4, none⟩ = some x4) ∧
    (w.cell? ⟨g, 5, none⟩ = some x5 ∧ w.cell? ⟨g, 6, none⟩ = some x6 ∧ w.cell? ⟨g, 7, none⟩ = some x7 ∧ w.cell? ⟨g, 8, none⟩ = some x8 ∧ w.cell? ⟨g, 9, none⟩ = some x9) := by
  simp [World.cell?, h]
theorem take_past {α : Type} {l : List α} {k : Nat} (h : l.length ≤ k) : l.take (k + 1) = l.take k := by rw [List.take_of_length_le h, List.take_of_length_le (by omega)]
theorem noneTo_past {α : Type} {p : α → Bool} {l : List α} {k : Nat} (h : NoneTo p l k) (hk : l.length ≤ k) : NoneTo p l (k + 1) := fun j y _ hy => h j y (by have := (List.getElem?_eq_some_iff.1 hy).1; omega) hy
theorem noneTo_all {α : Type} {p : α → Bool} {l : List α} {k : Nat} (h : NoneTo p l k) (hk : l.length ≤ k) : NoneTo p l l.length := fun j y hj hy => h j y (by omega) hy
def partsB (Zs : List Zo) (Fs : List Fo) : Bool := Zs.all zokB && Fs.all fokB && decide ((Zs.map (·.name)).Nodup) && decide ((Fs.map (·.ad)).Nodup)

set_option maxHeartbeats 16000000 in
set_option maxRecDepth 1000000 in
theorem mayParts_any (zs : List Zv) (fs : List Fv) (Zs : List Zo) (Fs : List Fo) (m : Nat) (hm : m = (zs.map Pt.z ++ fs.map Pt.f).length) (a : Option Addr) (c : Nat) (w : World) (hR : PK.RowC w a c (zs.map Pt.z ++ fs.map Pt.f)) (hZ : Each ZoP w zs Zs) (hF : Each FoP w fs Fs) (hs : ∀ z ∈ Zs, z.name.size ≤ 140737488355328) (hz8 : zs.length ≤ 8) (hf32 : fs.length ≤ 32) :
    Calls Try.prog 45 #[.slice a m c] w fun e w' => e = .returned (.bool (partsB Zs Fs)) ∧ Below w.heap.size w w' := by
  obtain ⟨L, hL⟩ : ∃ L, L = zs.map Pt.z ++ fs.map Pt.f := ⟨_, rfl⟩
  have hLl : L.length = zs.length + fs.length := by rw [hL]; simp
  rw [← hL] at hm hR
  subst hm
  have hzl := hZ.1
  have hfl := hF.1
  have HLz := Lib.hid (show ∀ (k : Nat) (x : Zv), zs[k]? = some x → L[k]? = some (Pt.z x) from fun k x hx => by
    have hk := (List.getElem?_eq_some_iff.1 hx).1
    rw [hL, List.getElem?_append_left (by simpa using hk), List.getElem?_map, hx]; rfl)
  have HLf := Lib.hid (show ∀ (k : Nat) (x : Fv), zs.length ≤ k → fs[k - zs.length]? = some x → L[k]? = some (Pt.f x) from fun k x hk hx => by
    rw [hL, List.getElem?_append_right (by simpa using hk), List.getElem?_map, List.length_map, hx]; rfl)
  have HR := Lib.hid hR
  have HZ := Lib.hid hZ
  have HF := Lib.hid hF
  have HS := Lib.hid hs
  obtain ⟨Z, hZn⟩ : ∃ Z, Z = zs.length := ⟨_, rfl⟩
  rw [← hZn] at hLl hzl hz8
  generalize hM : L.length = M at *
  have HM := Lib.hid hM
  have HE := Lib.hid (show M = Z + fs.length ∧ Z = Zs.length ∧ fs.length = Fs.length ∧ Z = zs.length ∧ Z ≤ 8 ∧ fs.length ≤ 32 from ⟨hLl, hzl, hfl, hZn, hz8, hf32⟩)
  clear hR hZ hF hs hL hM hLl hzl hfl hZn hz8 hf32
  have hM40 : (M : Int) ≤ 40 := by have := HE.out; omega
  have hz1 := assert_zone
  have hz2 := assert_not
  have hz3 := assert_row
  go_enter Try.func45, Try.ntmps45
  go_wp2_with fail
  go_loopw [3, 4, 11] (fun r3 r4 i wr => ∃ (k n3 n4 : Nat) (a3 a4 : Option Addr) (c3 c4 : Nat), r3 = .slice a3 n3 c3 ∧ r4 = .slice a4 n4 c4 ∧ i = .int .i64 k ∧ k ≤ M ∧ (n3 ≤ 8 ∧ n4 ≤ 32) ∧ Hid (n3 = (Zs.take k).length ∧ n4 = (Fs.take (k - Z)).length) ∧ Hid (TK.Own wr w.heap.size (.slice a3 n3 c3) ((Zs.take k).map (·.name))) ∧ Hid (AK.Own wr w.heap.size (.slice a4 n4 c4) ((Fs.take (k - Z)).map (·.ad))) ∧ Hid (NoneTo (fun z => !zokB z) Zs k) ∧ Hid (NoneTo (fun z => !fokB z) Fs (k - Z)) ∧ Below w.heap.size w wr) (fun _ _ i _ => M - (intOf i).toNat)
  case atStart => exact ⟨0, 0, 0, none, none, 0, 0, rfl, rfl, rfl, by omega, by omega, Lib.hid (by simp), Lib.hid (own_nil _ _), Lib.hid (by simp; exact own_nil _ _), Lib.hid (noneTo_zero _ _), Lib.hid (by simp; exact noneTo_zero _ _), Below.refl _ _⟩
  case round =>
    obtain ⟨k, n3, n4, a3, a4, c3, c4, rfl, rfl, rfl, hk, hn34, hnn, ho3, ho4, hno3, hno4, hb⟩ := hrel
    have HNN := Lib.hid hnn.out
    have HO3 := Lib.hid ho3.out
    have HO4 := Lib.hid ho4.out
    have HN3 := Lib.hid hno3.out
    have HN4 := Lib.hid hno4.out
    have HB := Lib.hid hb
    have hbs := hb.size
    clear hnn ho3 ho4 hno3 hno4 hb
    by_cases hkz : k < Z
    · obtain ⟨⟨xn, xh⟩, hx⟩ : ∃ x, zs[k]? = some x := ⟨_, List.getElem?_eq_getElem (by have := HE.out; omega)⟩
      obtain ⟨b, hbz⟩ : ∃ b, Zs[k]? = some b := ⟨_, List.getElem?_eq_getElem (by have := HE.out; omega)⟩
      obtain rfl : xn = b.name := (HZ.out.2 k _ b hx hbz).1
      obtain ⟨x, hxe⟩ : ∃ x : Zv, x = ⟨b.name, xh⟩ := ⟨_, rfl⟩
      obtain ⟨g, o, rfl, hg, hat⟩ := HR.out.2.2.2 (by rw [HM.out]; have := HE.out; omega)
      have y0 := PK.one (hat.below HB.out hg) (HLz.out k _ hx)
      have HP := Lib.hid ((HZ.out.below zoP_steady HB.out).2 k _ b hx hbz)
      have HX := Lib.hid hbz
      have HSz := Lib.hid (HS.out b (List.mem_of_getElem? hbz))
      simp only [Pt.v, Zv.v] at y0
      clear hx hbz hat hxe x
      have HBa := Lib.hid (below1 wr (.cells #[.string b.name, .slice xh.a xh.n xh.c] 70))
      have HLa := Lib.hid (laid1 wr (.cells #[.string b.name, .slice xh.a xh.n xh.c] 70))
      have HCz := Lib.hid (zone_may ⟨b.name, xh⟩ b (wr.alloc (.cells #[.string b.name, .slice xh.a xh.n xh.c] 70)) (zoP_steady _ _ _ _ HP.out HBa.out) HSz.out)
      have hkM : (k : Int) < (M : Int) := by have := HE.out; omega
      go_wp2_with fail
      with_reducible refine HCz.out.mono ?_
      rintro e w2 ⟨rfl, hb2⟩
      have HB2 := Lib.hid (HBa.out.trans (hb2.mono (by simp)))
      have HL2 := Lib.hid ((hb2.block wr.heap.size (by simp)).trans HLa.out)
      clear hb2 HCz HBa HLa y0
      obtain ⟨y0, y1⟩ := cells2 HL2.out
      cases hq : zokB b
      · have HQ := Lib.hid hq
        clear hq
        go_wp2_with fail
        go_ret
        exact ⟨by unfold partsB; rw [all_falseC HX.out HQ.out]; rfl, HB.out.trans (HB2.out.mono hbs)⟩
      · have HQ := Lib.hid hq
        clear hq
        have hsz := HB2.out.size
        have hkk : k + 1 - Z = k - Z := by have := HE.out; omega
        have hLN : ((Zs.take (k + 1)).map (·.name)).length = n3 + 1 := by have := HNN.out.1; have := HE.out; simp at *; omega
        have hn38 : n3 < 8 := by have := HNN.out.1; have := HE.out; simp at *; omega
        have HMT := Lib.hid (map_take_more (·.name) HX.out)
        go_wp2_with (at_builtin; refine TK.wpList_append_owned rfl _ _ rfl w.heap.size (.slice a3 n3 c3) rfl ((Zs.take k).map (·.name)) (HO3.out.below (HB2.out.trans ((below1 w2 _).mono hsz)) (Nat.le_refl _)) (some ⟨w2.heap.size, 0, none⟩) 1 1 rfl [b.name] rfl (rowC_at (K := TK) w2 9 [b.name] _ _ 1 rfl rfl rfl (by simp)) (by have := HNN.out.1; have := HE.out; simp at *; omega) (by simp; omega) ((Zs.take (k + 1)).map (·.name)) HMT.out ?_; intro a1 c1 w3 hO hG; rw [hLN] at hO ⊢; have HO3n := Lib.hid hO; have HG := Lib.hid hG; clear hO hG)
        have HB3 := Lib.hid (HB.out.trans ((HB2.out.trans ((below1 w2 (.cells #[.string b.name] 9)).mono hsz)).mono hbs))
        have HOo := Lib.hid (HO3.out.below (HB2.out.trans ((below1 w2 (.cells #[.string b.name] 9)).mono hsz)) (Nat.le_refl _))
        have HO4b := Lib.hid (HO4.out.below (HB2.out.trans ((below1 w2 (.cells #[.string b.name] 9)).mono hsz)) (Nat.le_refl _))
        go_roundw
        case rel => exact ⟨k + 1, n3 + 1, n4, a1, a4, c1, c4, rfl, rfl, by go_num, by have := HE.out; omega, by omega, Lib.hid (by rw [hkk]; have := HNN.out; have := HE.out; simp at *; omega), HO3n, Lib.hid (by rw [hkk]; exact own_beside HO4b.out HOo.out (by decide) HG.out), Lib.hid (noneTo_step HN3.out HX.out (by rw [HQ.out]; rfl)), Lib.hid (by rw [hkk]; exact HN4.out), own_grown HOo.out HB3.out HG.out (by simp; omega)⟩
        case measure => simp [intOf]; omega
    · by_cases hkM : k < M
      · obtain ⟨⟨ad, xh⟩, hx⟩ : ∃ x, fs[k - Z]? = some x := ⟨_, List.getElem?_eq_getElem (by have := HE.out; omega)⟩
        obtain ⟨b, hbz⟩ : ∃ b, Fs[k - Z]? = some b := ⟨_, List.getElem?_eq_getElem (by have := HE.out; omega)⟩
        obtain rfl : ad = b.ad := (HF.out.2 _ _ b hx hbz).1
        obtain ⟨g, o, rfl, hg, hat⟩ := HR.out.2.2.2 (by rw [HM.out]; omega)
        have y0 := PK.one (hat.below HB.out hg) (HLf.out k _ (by have := HE.out; omega) (by have := HE.out; rw [← this.2.2.2.1]; exact hx))
        have HP := Lib.hid ((HF.out.below foP_steady HB.out).2 _ _ b hx hbz)
        have HX := Lib.hid hbz
        simp only [Pt.v, Fv.v] at y0
        clear hx hbz hat
        have HBa := Lib.hid (below1 wr (.cells #[.int .i8 b.ad.f, .int .u16 b.ad.g0, .int .u16 b.ad.g1, .int .u16 b.ad.g2, .int .u16 b.ad.g3, .int .u16 b.ad.g4, .int .u16 b.ad.g5, .int .u16 b.ad.g6, .int .u16 b.ad.g7, .int .i64 b.ad.p, .slice xh.a xh.n xh.c] 74))
        have HLa := Lib.hid (laid1 wr (.cells #[.int .i8 b.ad.f, .int .u16 b.ad.g0, .int .u16 b.ad.g1, .int .u16 b.ad.g2, .int .u16 b.ad.g3, .int .u16 b.ad.g4, .int .u16 b.ad.g5, .int .u16 b.ad.g6, .int .u16 b.ad.g7, .int .i64 b.ad.p, .slice xh.a xh.n xh.c] 74))
        have HCz := Lib.hid (row_may ⟨b.ad, xh⟩ b (wr.alloc (.cells #[.int .i8 b.ad.f, .int .u16 b.ad.g0, .int .u16 b.ad.g1, .int .u16 b.ad.g2, .int .u16 b.ad.g3, .int .u16 b.ad.g4, .int .u16 b.ad.g5, .int .u16 b.ad.g6, .int .u16 b.ad.g7, .int .i64 b.ad.p, .slice xh.a xh.n xh.c] 74)) (foP_steady _ _ _ _ HP.out HBa.out))
        have hkMi : (k : Int) < (M : Int) := by omega
        go_wp2_with fail
        with_reducible refine HCz.out.mono ?_
        rintro e w2 ⟨rfl, hb2⟩
        have HB2 := Lib.hid (HBa.out.trans (hb2.mono (by simp)))
        have HL2 := Lib.hid ((hb2.block wr.heap.size (by simp)).trans HLa.out)
        clear hb2 HCz HBa HLa y0
        obtain ⟨⟨y0, y1, y2, y3, y4⟩, y5, y6, y7, y8, y9⟩ := box11C HL2.out
        cases hq : fokB b
        · have HQ := Lib.hid hq
          clear hq
          go_wp2_with fail
          go_ret
          exact ⟨by unfold partsB; rw [all_falseC HX.out HQ.out]; simp, HB.out.trans (HB2.out.mono hbs)⟩
        · have HQ := Lib.hid hq
          clear hq
          have hsz := HB2.out.size
          have hkk : k + 1 - Z = k - Z + 1 := by omega
          have hLN : ((Fs.take (k - Z + 1)).map (·.ad)).length = n4 + 1 := by have := HNN.out.2; have := HE.out; simp at *; omega
          have hn38 : n4 < 32 := by have := HNN.out.2; have := HE.out; simp at *; omega
          have HMT := Lib.hid (map_take_more (·.ad) HX.out)
          go_wp2_with (at_builtin; refine AK.wpList_append_owned rfl _ _ rfl w.heap.size (.slice a4 n4 c4) rfl ((Fs.take (k - Z)).map (·.ad)) (HO4.out.below (HB2.out.trans ((below1 w2 _).mono hsz)) (Nat.le_refl _)) (some ⟨w2.heap.size, 0, none⟩) 1 1 rfl [b.ad] rfl (rowC_at (K := AK) w2 43 [b.ad] _ _ 1 rfl rfl rfl (by simp)) (by have := HNN.out.2; have := HE.out; simp at *; omega) (by simp; omega) ((Fs.take (k - Z + 1)).map (·.ad)) HMT.out ?_; intro a1 c1 w3 hO hG; rw [hLN] at hO ⊢; have HO4n := Lib.hid hO; have HG := Lib.hid hG; clear hO hG)
          have HB3 := Lib.hid (HB.out.trans ((HB2.out.trans ((below1 w2 (.cells #[.int .i8 b.ad.f, .int .u16 b.ad.g0, .int .u16 b.ad.g1, .int .u16 b.ad.g2, .int .u16 b.ad.g3, .int .u16 b.ad.g4, .int .u16 b.ad.g5, .int .u16 b.ad.g6, .int .u16 b.ad.g7, .int .i64 b.ad.p] 43)).mono hsz)).mono hbs))
          have HOo := Lib.hid (HO4.out.below (HB2.out.trans ((below1 w2 (.cells #[.int .i8 b.ad.f, .int .u16 b.ad.g0, .int .u16 b.ad.g1, .int .u16 b.ad.g2, .int .u16 b.ad.g3, .int .u16 b.ad.g4, .int .u16 b.ad.g5, .int .u16 b.ad.g6, .int .u16 b.ad.g7, .int .i64 b.ad.p] 43)).mono hsz)) (Nat.le_refl _))
          have HO3b := Lib.hid (HO3.out.below (HB2.out.trans ((below1 w2 (.cells #[.int .i8 b.ad.f, .int .u16 b.ad.g0, .int .u16 b.ad.g1, .int .u16 b.ad.g2, .int .u16 b.ad.g3, .int .u16 b.ad.g4, .int .u16 b.ad.g5, .int .u16 b.ad.g6, .int .u16 b.ad.g7, .int .i64 b.ad.p] 43)).mono hsz)) (Nat.le_refl _))
          have HT := Lib.hid (take_past (l := Zs) (k := k) (by have := HE.out; omega))
          go_roundw
          case rel => exact ⟨k + 1, n3, n4 + 1, a3, a1, c3, c1, rfl, rfl, by go_num, by omega, by omega, Lib.hid (by rw [hkk, HT.out]; have := HNN.out; have := HE.out; simp at *; omega), Lib.hid (by rw [HT.out]; exact own_beside HO3b.out HOo.out (by decide) HG.out), Lib.hid (by rw [hkk]; exact HO4n.out), Lib.hid (noneTo_past HN3.out (by have := HE.out; omega)), Lib.hid (by rw [hkk]; exact noneTo_step HN4.out HX.out (by rw [HQ.out]; rfl)), own_grown HOo.out HB3.out HG.out (by simp; omega)⟩
          case measure => simp [intOf]; omega
      · obtain rfl : k = M := by omega
        have HA3 := Lib.hid (show Zs.all zokB = true from all_trueC (noneTo_all HN3.out (by have := HE.out; omega)))
        have HA4 := Lib.hid (show Fs.all fokB = true from all_trueC (noneTo_all HN4.out (by have := HE.out; omega)))
        have HU3 := Lib.hid (unlike_texts (Zs.map (·.name)) n3 (by have := HNN.out.1; have := HE.out; simp at *; omega) a3 c3 wr (by have h := HO3.out.row; rwa [List.take_of_length_le (by have := HE.out; omega)] at h))
        have HU4 := Lib.hid (unlike_ads (Fs.map (·.ad)) n4 (by have := HNN.out.2; have := HE.out; simp at *; omega) a4 c4 wr (by have h := HO4.out.row; rwa [List.take_of_length_le (by have := HE.out; omega)] at h))
        go_wp2_with fail
        with_reducible refine HU3.out.mono ?_
        rintro e w2 ⟨rfl, rfl⟩
        by_cases hd : (Zs.map (·.name)).Nodup
        · rw [decide_eq_true hd]
          have HPb := Lib.hid (show partsB Zs Fs = decide ((Fs.map (·.ad)).Nodup) by unfold partsB; rw [HA3.out, HA4.out, decide_eq_true hd]; rfl)
          clear hd
          go_wp2_with fail
          with_reducible refine HU4.out.mono ?_
          rintro e w3 ⟨rfl, hb3⟩
          have HB3 := Lib.hid (HB.out.trans (hb3.mono hbs))
          clear hb3
          go_wp2_with fail
          go_ret
          exact ⟨by rw [HPb.out]; first | rfl | simp, HB3.out⟩
        · rw [decide_eq_false hd]
          have HPb := Lib.hid (show partsB Zs Fs = false by unfold partsB; rw [decide_eq_false hd]; simp)
          clear hd
          go_wp2_with fail
          go_ret
          exact ⟨by rw [HPb.out]; rfl, HB.out⟩
end Go.Proofs.Ytciohjgcndgiaaa

set_option linter.unusedSimpArgs false
set_option linter.unusedVariables false
namespace Go.Proofs.Ytciohjgcndgiaaa
open Go.RowKit Go.Proofs.Ytciohjgcndgiaaa.Kind

def theR : Rules := ⟨zokB, fokB⟩
theorem check_as (P : Pl) : checkB theR P = (lensB P && (numsB P && partsB P.zones P.fates)) := by
  unfold checkB lensB numsB partsB theR
  rw [Bool.eq_iff_iff]
  simp only [Bool.and_eq_true, decide_eq_true_eq]
  constructor
  · rintro ⟨⟨⟨⟨⟨⟨⟨⟨h1, h2⟩, h3⟩, h4⟩, h5⟩, h6⟩, h7⟩, h8⟩, h9⟩
    exact ⟨⟨h1, h4, h8⟩, ⟨h9, h7⟩, ⟨⟨h2, h5⟩, h3⟩, h6⟩
  · rintro ⟨⟨h1, h4, h8⟩, ⟨h9, h7⟩, ⟨⟨h2, h5⟩, h3⟩, h6⟩
    exact ⟨⟨⟨⟨⟨⟨⟨⟨h1, h2⟩, h3⟩, h4⟩, h5⟩, h6⟩, h7⟩, h8⟩, h9⟩

set_option maxHeartbeats 8000000 in
set_option maxRecDepth 1000000 in
theorem check_real : PCheckSpec theR := by
  intro P v w r hS hP hr
  rw [check_as] at hr
  have HLn := Lib.hid (fun w => lens_any P v w)
  have HNm := Lib.hid (fun w h => nums_any P v w h)
  have HPt := Lib.hid (fun zs fs w h1 h2 h3 h4 h5 h6 => parts_any P v zs fs w h1 h2 h3 h4 h5 h6)
  obtain ⟨⟨zs, hz⟩, ⟨fs, hf⟩, hd⟩ := hP
  have HZ := Lib.hid hz
  have HF := Lib.hid hf
  have HD := Lib.hid hd
  clear hz hf hd
  obtain ⟨za, zc, fa, fc, da, dc⟩ := v
  simp only [Pv.val] at HLn HNm HPt HZ HF HD ⊢
  obtain ⟨o1, ho1⟩ : ∃ o1 : Obj, o1 = .cells #[.slice za P.zones.length zc, .slice fa P.fates.length fc, .int .i64 P.ticks, .slice da P.drops.length dc] 26 := ⟨_, rfl⟩
  have HB := Lib.hid (below1 w o1)
  have HL := Lib.hid (laid1 w o1)
  rw [ho1] at HB HL
  clear ho1
  obtain ⟨W1, hW1⟩ : ∃ W1, W1 = w.alloc (.cells #[.slice za P.zones.length zc, .slice fa P.fates.length fc, .int .i64 P.ticks, .slice da P.drops.length dc] 26) := ⟨_, rfl⟩
  have hN : W1.heap.size = w.heap.size + 1 := by rw [hW1]; simp
  rw [← hW1] at HB HL
  go_enter Try.func21, Try.ntmps21
  go_upto_region 1 with fail
  rw [← hW1]
  clear hW1
  have hlt : w.heap.size < W1.heap.size := by omega
  obtain ⟨⟨x0, x1, x2, x3⟩, _⟩ := box4 HL.out
  go_wp2_with fail
  with_reducible refine (HLn.out _).mono ?_
  rintro e w2 ⟨rfl, hb2⟩
  have HB2 := Lib.hid hb2
  have HL2 := Lib.hid ((hb2.block _ hlt).trans HL.out)
  clear hb2 x0 x1 x2 x3 HL HLn
  obtain ⟨⟨x0, x1, x2, x3⟩, _⟩ := box4 HL2.out
  cases hq : lensB P
  · obtain rfl : r = 90 := by rw [hr, hq]; rfl
    clear hr hq
    go_wp2_with fail
    go_ret
    exact ⟨rfl, HB.out.trans (HB2.out.mono (by omega))⟩
  · have hr2 : r = if (numsB P && partsB P.zones P.fates) = true then 0 else 90 := by rw [hr, hq]; rfl
    have hq2 := hq
    unfold lensB at hq2
    have HQ := Lib.hid (of_decide_eq_true hq2)
    clear hr hq hq2
    go_wp2_with fail
    with_reducible refine (HNm.out _ (HD.out.below (HB.out.trans (HB2.out.mono (by omega))))).mono ?_
    rintro e w3 ⟨rfl, hb3⟩
    have hs2 := HB2.out.size
    have HB3 := Lib.hid (HB2.out.trans (hb3.mono hs2))
    have HL3 := Lib.hid ((hb3.block _ (by omega)).trans HL2.out)
    clear hb3 x0 x1 x2 x3 HL2 HNm
    obtain ⟨⟨x0, x1, x2, x3⟩, _⟩ := box4 HL3.out
    cases hn : numsB P
    · obtain rfl : r = 90 := by rw [hr2, hn]; rfl
      clear hr2 hn
      go_wp2_with fail
      go_ret
      exact ⟨rfl, HB.out.trans (HB3.out.mono (by omega))⟩
    · have hr3 : r = if partsB P.zones P.fates = true then 0 else 90 := by rw [hr2, hn]; rfl
      clear hr2 hn
      have HBa := Lib.hid (HB.out.trans (HB3.out.mono (by omega)))
      have hzl : zs.length ≤ 8 := by have h1 := HQ.out.1; have h2 := HZ.out.1; omega
      have hfl : fs.length ≤ 32 := by have h1 := HQ.out.2.1; have h2 := HF.out.1; omega
      have HPx := Lib.hid (HPt.out zs fs w3 (HZ.out.below zoP_steady HBa.out).2.1 (HF.out.below foP_steady HBa.out).2.1 HZ.out.1.symm HF.out.1.symm hzl hfl)
      go_wp2_with fail
      with_reducible refine HPx.out.mono ?_
      rintro e w4 ⟨pa, pc, rfl, hrow, hb4⟩
      have HB4 := Lib.hid (HBa.out.trans (hb4.mono HBa.out.size))
      have HMx := Lib.hid (mayParts_any zs fs P.zones P.fates _ rfl pa pc w4 hrow ((HZ.out.each.below zoP_steady HB4.out)) ((HF.out.each.below foP_steady HB4.out)) hS hzl hfl)
      clear hb4 hrow x0 x1 x2 x3 HL3 HPx HPt
      generalize (zs.map Pt.z ++ fs.map Pt.f).length = PN at *
      go_wp2_with fail
      with_reducible refine HMx.out.mono ?_
      rintro e w5 ⟨rfl, hb5⟩
      have HB5 := Lib.hid (HB4.out.trans (hb5.mono HB4.out.size))
      clear hb5 HMx
      cases hp : partsB P.zones P.fates
      · obtain rfl : r = 90 := by rw [hr3, hp]; rfl
        clear hr3 hp
        go_wp2_with fail
        go_ret
        exact ⟨rfl, HB5.out⟩
      · obtain rfl : r = 0 := by rw [hr3, hp]; rfl
        clear hr3 hp
        go_wp2_with fail
        go_ret
        exact ⟨rfl, HB5.out⟩
end Go.Proofs.Ytciohjgcndgiaaa

