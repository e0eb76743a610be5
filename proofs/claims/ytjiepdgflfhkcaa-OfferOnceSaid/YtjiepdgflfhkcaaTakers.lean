/- Who takes out of which duct. -/
import Derived.Test.YtjiepdgflfhkcaaTable
set_option linter.unusedSimpArgs false
set_option linter.unusedVariables false
namespace Go.Proofs.Ytjiepdgflfhkcaa
open Go.RowKit Go.Proofs.Ytjiepdgflfhkcaa.Kind Go.Proofs.Ytjiepdgflfhkcaa.P7

def NZ (hs : List Hv) : Prop := ∀ (d : Nat) (x : Hv), hs[d]? = some x → ∀ y, x.a = some y → 0 < x.c
theorem nz_nil (n : Nat) : NZ (List.replicate n ⟨none, 0, 0⟩) := by
  intro d x e y hy
  rw [List.getElem?_replicate] at e
  split at e
  · simp only [Option.some.injEq] at e
    subst e
    cases hy
  · cases e
theorem rowT_succ {D : List Dv} {q j : Nat} {row : List Of} {o : Of} {T : List (List Tk)} (h : row[j]? = some o) : rowT D q row (j + 1) T = stepT D q j o (rowT D q row j T) := by
  conv => lhs; unfold rowT
  rw [h]
theorem allT_succ {D : List Dv} {q : Nat} {R : List (List Of)} {row : List Of} (h : R[q]? = some row) : allT D R (q + 1) = rowT D q row row.length (allT D R q) := by
  conv => lhs; unfold allT
  rw [h]
theorem rowC_draw {α : Type} {K : Kind Try.prog α} {w : World} {a : Option Addr} {c : Nat} {l : List α} (h : K.RowC w a c l) : K.RowC w.drew a c l := h
theorem loose_draw {α : Type} {K : Kind Try.prog α} {w : World} {base : Nat} {a : Option Addr} {c : Nat} {l : List α} (h : K.Loose w base a c l) : K.Loose w.drew base a c l := h
theorem tab_draw {w : World} {g : Nat} {hs : List Hv} {T : List (List Tk)} (h : TabL w g hs T) : TabL w.drew g hs T := h
theorem sum_mem {R : List (List Of)} {n : Nat} (h : (R.map (fun l => l.length)).sum ≤ n) : ∀ row ∈ R, row.length ≤ n := by
  intro row hr
  induction R with
  | nil => cases hr
  | cons x R ih =>
    rw [List.map_cons, List.sum_cons] at h
    rcases List.mem_cons.1 hr with rfl | hr
    · omega
    · exact ih (by omega) hr

theorem takers_more {w w' : World} {g : Nat} {hs : List Hv} {T : List (List Tk)} (h : TabL w g hs T) {d : Nat} {x : Hv} {l : List Tk} (hx : hs[d]? = some x) (hl : T[d]? = some l) (hnz : NZ hs) (t : Tk) (L : List Tk) (hLL : L = l ++ [t]) (a' : Option Addr) (c' : Nat) (hL : TK.Loose w' (g + 1) a' c' L) (hG : ∃ row, w.grownBy w' row ∧ ∀ j, row = some j → g + 1 ≤ j ∧ 0 < x.c ∧ ∃ ad, x.a = some ad ∧ ad.block = j) (hA : (∃ b, a' = some ⟨b, 0, none⟩ ∧ w.heap.size ≤ b) ∨ (a' = x.a ∧ 0 < x.c)) :
    w'.heap[g]? = some (.cells (hs.map (fun h => Value.slice h.a h.n h.c)).toArray 71 (0, 0)) ∧
    TabL (w'.setCell ⟨g, d, none⟩ (.slice a' L.length c')) g (hs.set d ⟨a', L.length, c'⟩) (T.modify d (· ++ [t])) ∧ NZ (hs.set d ⟨a', L.length, c'⟩) := by
  subst hLL
  exact h.more hx hl hnz t a' c' hL hG hA
theorem takers_box {w w' : World} {B c G : Nat} {a : Option Addr} {o : Obj} (hG : ∃ row, w.grownBy w' row ∧ ∀ j, row = some j → B ≤ j ∧ 0 < c ∧ ∃ ad, a = some ad ∧ ad.block = j) (hne : ∀ x, a = some x → x.block < G) (ho : w.heap[G]? = some o) : w'.heap[G]? = some o := by
  obtain ⟨row, hG, hr⟩ := hG
  refine (hG.block G (lt_of_block ho) (fun e => ?_)).trans ho
  obtain ⟨_, _, ad, h1, h2⟩ := hr G e.symm
  have := hne ad h1
  omega
theorem takers_below {w w4 Z w5 : World} {B c n d : Nat} {a : Option Addr} (h4 : Below n w w4) (hZ : Below w4.heap.size w4 Z) (hG : ∃ row, Z.grownBy w5 row ∧ ∀ j, row = some j → B ≤ j ∧ 0 < c ∧ ∃ ad, a = some ad ∧ ad.block = j) (hB : n < B) {g : Nat} (hg : n ≤ g) (v : Value) (hn : n ≤ w4.heap.size := by omega) : Below n w (w5.setCell ⟨g, d, none⟩ v) := by
  obtain ⟨row, hG, hr⟩ := hG
  exact ((h4.trans (hZ.mono hn)).grown hG (Nat.le_trans hn hZ.size) (fun k e => by have := (hr k e).1; omega)).setCell hg _

set_option maxHeartbeats 16000000 in
set_option maxRecDepth 1000000 in
theorem takers_any (hs : List Hv) (R : List (List Of)) (D : List Dv) (a b : Option Addr) (c d : Nat) (w : World) (hR31 : R.length ≤ 31) (hD : D.length ≤ 200) (hS : (R.map (fun l => l.length)).sum ≤ 100) (hR : RowsC w a c hs R) (hDk : DK.RowC w b d D) :
    Calls Try.prog 18 #[.slice a hs.length c, .slice b D.length d] w fun e w' => ∃ (g : Nat) (th : List Hv), e = .returned (.slice (some ⟨g, 0, none⟩) D.length D.length) ∧ TabL w' g th (allT D R R.length) ∧ Below w.heap.size w w' := by
  have hl := hR.2.1
  have HR := Lib.hid hR
  have HD := Lib.hid hDk
  have HL := Lib.hid hl
  have HM := Lib.hid (sum_mem hS)
  have hmk := run_made w D.length (by omega)
  have HT0 := Lib.hid (tab_nil w D.length)
  have HB0 := Lib.hid (below1 w (.cells (List.replicate D.length (Value.slice none 0 0)).toArray 71))
  have hl31 : hs.length ≤ 31 := by omega
  clear hR hDk hS hl hR31
  go_enter Try.func18, Try.ntmps18
  go_wp2_with fail
  clear hmk
  go_loopw [15] (fun u15 wr => ∃ (q : Nat) (th : List Hv), u15 = .int .i64 q ∧ q ≤ hs.length ∧ Hid (TabL wr w.heap.size th (allT D R q)) ∧ Hid (NZ th) ∧ Hid (Below w.heap.size w wr)) (fun u _ => hs.length - (intOf u).toNat)
  case atStart => exact ⟨0, _, rfl, by omega, HT0, Lib.hid (nz_nil _), HB0⟩
  case round =>
    obtain ⟨q, th, rfl, hq, hT, hN, hB⟩ := hrel
    have HT := Lib.hid hT.out
    have HN := Lib.hid hN.out
    have HB := Lib.hid hB.out
    clear hT hN hB HT0 HB0
    by_cases hlt : q < hs.length
    · obtain ⟨row, hrow⟩ : ∃ row, R[q]? = some row := ⟨_, List.getElem?_eq_getElem (by have := HL.out; omega)⟩
      obtain ⟨b1, o1, x, rfl, hb0, hc0, hO⟩ := HR.out.at hrow
      have hc1 := (HB.out.cell (p := ⟨b1, o1 + q, none⟩) hb0).trans hc0
      have hb1 : b1 < wr.heap.size := Nat.lt_of_lt_of_le hb0 HB.out.size
      have HO := Lib.hid hO
      have HRow := Lib.hid hrow
      have hrl : row.length ≤ 100 := HM.out row (List.mem_of_getElem? hrow)
      have hqi : (q : Int) < (hs.length : Int) := by omega
      have HTB := Lib.hid (allT_bound D R HM.out q)
      clear hO hrow hc0 hb0
      go_wp2_with fail
      go_loopw [22] (fun u22 wr2 => ∃ (j : Nat) (th2 : List Hv), u22 = .int .i64 j ∧ j ≤ row.length ∧ Hid (TabL wr2 w.heap.size th2 (rowT D q row j (allT D R q))) ∧ Hid (NZ th2) ∧ Hid (Below w.heap.size w wr2)) (fun u _ => row.length - (intOf u).toNat)
      case atStart => exact ⟨0, _, rfl, by omega, HT, HN, HB⟩
      case round =>
        obtain ⟨j, th2, rfl, hj, hT, hN, hB⟩ := hrel
        have HT2 := Lib.hid hT.out
        have HN2 := Lib.hid hN.out
        have HB2 := Lib.hid hB.out
        clear hT hN hB HT HN HB hc1 hb1
        by_cases hjl : j < row.length
        · obtain ⟨⟨kind, duct, om, ot⟩, ho⟩ : ∃ o, row[j]? = some o := ⟨_, List.getElem?_eq_getElem hjl⟩
          obtain ⟨b2, o2, hx2, hb2, hat2⟩ := (HO.out.below HB2.out).2.2.2 (by omega)
          obtain ⟨c0, c1, c2, c3, c4, c5, c6, c7, c8⟩ := OK.nine hat2 ho
          have HS := Lib.hid (rowT_succ (D := D) (q := q) (T := allT D R q) ho)
          have hji : (j : Int) < (row.length : Int) := by omega
          obtain ⟨xa, xn, xc⟩ := x
          dsimp only at hx2 HO c0 c1 c2 c3 c4 c5 c6 c7 c8
          subst hx2
          clear hat2 ho
          by_cases hk : kind = 1
          · obtain ⟨r, hr⟩ : ∃ r, r = openB D duct := ⟨_, rfl⟩
            subst hk
            cases r with
            | false =>
              have hbo := below1 wr (.cells #[.int .i8 1, .int .i64 duct, .int .i8 om.kind, .int .i64 om.fr, .int .i64 om.num, .int .i64 om.sock, .string om.text, .int .i64 om.e, .int .i64 ot] 38)
              have HB3 := Lib.hid (HB2.out.trans (hbo.mono HB2.out.size))
              have HT3 := Lib.hid (HT2.out.below hbo)
              have HOp := Lib.hid (open_any D duct false hr b d _ (HD.out.below HB3.out))
              have HE := Lib.hid (show stepT D q j ⟨1, duct, om, ot⟩ (rowT D q row j (allT D R q)) = rowT D q row j (allT D R q) by unfold stepT; rw [if_neg (by dsimp only; rw [← hr]; simp)])
              clear hr hbo
              go_wp2_with fail
              with_reducible refine HOp.out.mono ?_
              rintro e w4 ⟨rfl, hq4⟩
              have HT4 := Lib.hid (show TabL w4 w.heap.size th2 (rowT D q row (j + 1) (allT D R q)) by rw [HS.out, HE.out]; exact HT3.out.below hq4)
              have HB4 := Lib.hid (HB3.out.trans (hq4.mono HB3.out.size))
              clear hq4 HOp c0 c1 c2 c3 c4 c5 c6 c7 c8
              go_wp2_with fail
              go_roundw
              case rel => exact ⟨j + 1, th2, by go_num, by omega, HT4, HN2, HB4⟩
              case measure => simp [intOf]; omega
            | true =>
              obtain ⟨d0, hd0⟩ : ∃ d0, atP D duct = some d0 := by
                have := hr
                unfold openB at this
                cases h : atP D duct with
                | none => rw [h] at this; simp at this
                | some d0 => exact ⟨d0, rfl⟩
              obtain ⟨dd, hdd, hdD⟩ := atP_some hd0
              subst hdd
              have hddl : dd < D.length := (List.getElem?_eq_some_iff.1 hdD).1
              have hddi : (dd : Int) < (D.length : Int) := by omega
              have htl : (rowT D q row j (allT D R q)).length = D.length := by rw [rowT_length, allT_length]
              obtain ⟨⟨ya, yn, yc⟩, hy⟩ : ∃ y, th2[dd]? = some y := ⟨_, List.getElem?_eq_getElem (by rw [HT2.out.2.1, htl]; exact hddl)⟩
              obtain ⟨l2, hl2⟩ : ∃ l2, (rowT D q row j (allT D R q))[dd]? = some l2 := ⟨_, List.getElem?_eq_getElem (by rw [htl]; exact hddl)⟩
              have hyl := HT2.out.2.2.1 dd _ l2 hy hl2
              obtain rfl : yn = l2.length := hyl.1
              have hbnd : l2.length ≤ 100 * q + j := rowT_bound HTB.out j l2 (List.mem_of_getElem? hl2)
              have hne : ∀ x, ya = some x → x.block < wr.heap.size := fun x e => (loose_block hyl.2 e (HN2.out dd _ hy x e)).2
              have hbo := below1 wr (.cells #[.int .i8 1, .int .i64 dd, .int .i8 om.kind, .int .i64 om.fr, .int .i64 om.num, .int .i64 om.sock, .string om.text, .int .i64 om.e, .int .i64 ot] 38)
              have HOo := Lib.hid (laid1 wr (.cells #[.int .i8 1, .int .i64 dd, .int .i8 om.kind, .int .i64 om.fr, .int .i64 om.num, .int .i64 om.sock, .string om.text, .int .i64 om.e, .int .i64 ot] 38))
              have HB3 := Lib.hid (HB2.out.trans (hbo.mono HB2.out.size))
              have HT3 := Lib.hid (HT2.out.below hbo)
              have HOp := Lib.hid (open_any D dd true hr b d _ (HD.out.below HB3.out))
              have HE := Lib.hid (show stepT D q j ⟨1, dd, om, ot⟩ (rowT D q row j (allT D R q)) = (rowT D q row j (allT D R q)).modify dd (· ++ [⟨q, j⟩]) by unfold stepT; rw [if_pos ⟨rfl, hr.symm⟩, Int.toNat_natCast])
              have HY := Lib.hid hy
              have HL2 := Lib.hid hl2
              have HNE := Lib.hid hne
              obtain ⟨L, hL⟩ : ∃ L, L = l2 ++ [(⟨q, j⟩ : Tk)] := ⟨_, rfl⟩
              have HLL := Lib.hid hL
              clear hr hbo hd0 hdD hy hl2 hyl hne hL
              go_wp2_with fail
              with_reducible refine HOp.out.mono ?_
              rintro e w4 ⟨rfl, hq4⟩
              have hs4 : wr.heap.size < w4.heap.size := by have := hq4.size; simp at this; omega
              have hg4 : w.heap.size < wr.heap.size := lt_of_block HT2.out.1
              have hgw4 : w.heap.size < w4.heap.size := by omega
              have HT4 := Lib.hid (HT3.out.below hq4)
              have HB4 := Lib.hid (HB3.out.trans (hq4.mono HB3.out.size))
              have ho4 := (hq4.block wr.heap.size (by simp)).trans HOo.out
              have HO4 := Lib.hid ho4
              obtain ⟨g4, f4⟩ := HT4.out.at HY.out
              dsimp only at g4
              obtain ⟨_, p1, _, _, _, _, _, _, _⟩ := box9 ho4
              have hbZ := below1 w4 (.cells #[.int .i64 q, .int .i64 j] 73)
              have HTZ := Lib.hid (tab_draw (HT4.out.below hbZ))
              have HKZ := Lib.hid (rowC_draw (rowC_at (K := TK) w4 73 [⟨q, j⟩] #[.int .i64 q, .int .i64 j] w4.heap.size 1 rfl rfl rfl (by simp)))
              have HLZ := Lib.hid (HTZ.out.2.2.1 dd _ l2 HY.out HL2.out).2
              have HBZ := Lib.hid hbZ.drew
              have HOZ := Lib.hid ((hbZ.block wr.heap.size hs4).trans ho4)
              dsimp only at HLZ
              clear hq4 HOp c0 c1 c2 c3 c4 c5 c6 c7 c8 ho4 hbZ
              go_upto_region 9 with fail
              go_region_law (refine step_append_loose TK rfl _ _ rfl (w.heap.size + 1) ya l2.length yc rfl l2 rfl HLZ.out (some ⟨w4.heap.size, 0, none⟩) 1 1 rfl [⟨q, j⟩] rfl (by simp) HKZ.out (by simp; omega) (by simp; omega) L HLL.out ?_; intro a1 k1 w5 hL1 hG1 hA1; have HM5 := Lib.hid (takers_more HTZ.out HY.out HL2.out HN2.out ⟨q, j⟩ L HLL.out a1 k1 hL1 hG1 hA1); have HG5 := Lib.hid hG1; obtain ⟨g5, f5⟩ := hdr_at HM5.out.1 HY.out; obtain ⟨_, p5, _, _, _, _, _, _, _⟩ := box9 (takers_box hG1 HNE.out HOZ.out); dsimp only at g5; clear hL1 hG1 hA1)
              all_goals
                have HT6 := Lib.hid (show TabL (w5.setCell ⟨w.heap.size, dd, none⟩ (.slice a1 L.length k1)) w.heap.size (th2.set dd ⟨a1, L.length, k1⟩) (rowT D q row (j + 1) (allT D R q)) by rw [HS.out, HE.out]; exact HM5.out.2.1)
                have HB6 := Lib.hid (takers_below HB4.out HBZ.out HG5.out (by omega) (Nat.le_refl w.heap.size) (.slice a1 L.length k1) (d := dd))
                go_wp2_with fail
                go_roundw
                case rel => exact ⟨j + 1, _, by go_num, by omega, HT6, Lib.hid HM5.out.2.2, HB6⟩
                case measure => simp [intOf]; omega
          · have HE := Lib.hid (show TabL (wr.alloc (.cells #[.int .i8 kind, .int .i64 duct, .int .i8 om.kind, .int .i64 om.fr, .int .i64 om.num, .int .i64 om.sock, .string om.text, .int .i64 om.e, .int .i64 ot] 38)) w.heap.size th2 (rowT D q row (j + 1) (allT D R q)) by rw [HS.out]; unfold stepT; rw [if_neg (fun h => hk h.1)]; exact HT2.out.below (below1 wr _))
            have HB3 := Lib.hid (HB2.out.trans ((below1 wr (.cells #[.int .i8 kind, .int .i64 duct, .int .i8 om.kind, .int .i64 om.fr, .int .i64 om.num, .int .i64 om.sock, .string om.text, .int .i64 om.e, .int .i64 ot] 38)).mono HB2.out.size))
            have hk1 : (kind == 1) = false := by simp [hk]
            go_wp2_with fail
            go_roundw
            case rel => exact ⟨j + 1, th2, by go_num, by omega, HE, HN2, HB3⟩
            case measure => simp [intOf]; omega
        · obtain rfl : j = row.length := by omega
          have HE := Lib.hid (show TabL wr w.heap.size th2 (allT D R (q + 1)) by rw [allT_succ HRow.out]; exact HT2.out)
          clear HT2
          go_wp2_with fail
          go_roundw
          case rel => exact ⟨q + 1, th2, by go_num, by omega, HE, HN2, HB2⟩
          case measure => simp [intOf]; omega
    · obtain rfl : q = hs.length := by omega
      have HE := Lib.hid (show TabL wr w.heap.size th (allT D R R.length) by rw [← HL.out]; exact HT.out)
      clear HT
      go_wp2_with fail
      go_ret
      exact ⟨w.heap.size, th, rfl, HE.out, HB.out⟩
end Go.Proofs.Ytjiepdgflfhkcaa
